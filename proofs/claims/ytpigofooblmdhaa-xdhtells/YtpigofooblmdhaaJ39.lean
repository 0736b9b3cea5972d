/- A round of the reference's ladder. -/
import Derived.Test.YtpigofooblmdhaaJ34
set_option linter.all false
set_option maxRecDepth 100000
namespace Go.Proofs.Ytpigofooblmdhaa
open Go.RowKit Go.Sort
theorem rmulq (B : Int) (iB : Inn B) (w : World) : Calls Try.prog 78 #[.agg #[.int .u64 121665, .int .u64 0, .int .u64 0, .int .u64 0], nv B] w fun e w' => e = .returned (nv (fm 121665 B)) ∧ Below w.heap.size w w' := by
  rw [← nv_q]; exact rmul 121665 B ⟨by decide, by decide⟩ iB w
def RR (w w1 w2 wr : World) (K U A C B D : Int) : Prop :=
  Below w.heap.size w wr ∧ (w.heap.size ≤ w1.heap.size ∧ w1.heap.size < w2.heap.size) ∧ Arr wr w1.heap.size 4 (fun j => .int .u64 (lim (K) j)) ∧ Arr wr w2.heap.size 4 (fun j => .int .u64 (lim (U) j)) ∧ Arr wr (w2.heap.size + 1) 4 (fun j => .int .u64 (lim (A) j)) ∧ Arr wr (w2.heap.size + 1 + 1) 4 (fun j => .int .u64 (lim (C) j)) ∧ Arr wr (w2.heap.size + 1 + 1 + 1) 4 (fun j => .int .u64 (lim (B) j)) ∧ Arr wr (w2.heap.size + 1 + 1 + 1 + 1) 4 (fun j => .int .u64 (lim (D) j))
set_option maxHeartbeats 32000000 in
theorem rraw_core (k u S : ByteArray) (K U Y R bo : Int) (iU : Inn U) (w : World)
    (CK : ∀ W, Calls Try.prog 41 #[.string k] W fun e w' => e = .returned (.tuple #[nv K, .int .i64 0]) ∧ Below W.heap.size W w')
    (CU : ∀ W, Calls Try.prog 75 #[.string u] W fun e w' => e = .returned (.tuple #[nv U, .int .i64 0]) ∧ Below W.heap.size W w')
    (CS : ∀ W, Calls Try.prog 65 #[nv pp, .agg #[.int .u64 2, .int .u64 0, .int .u64 0, .int .u64 0]] W fun e w' => e = .returned (.tuple #[nv (pp - 2), .int .u64 bo]) ∧ Below W.heap.size W w')
    (CP : ∀ W, Calls Try.prog 39 #[nv (lsts U (upto K 255 255)).2.1, nv (pp - 2), nv pp] W fun e w' => e = .returned (nv Y) ∧ Below W.heap.size W w')
    (CM : ∀ W, Calls Try.prog 78 #[nv (lsts U (upto K 255 255)).1, nv Y] W fun e w' => e = .returned (nv R) ∧ Below W.heap.size W w')
    (CL : ∀ W, Calls Try.prog 19 #[nv R] W fun e w' => e = .returned (.string S) ∧ Below W.heap.size W w') :
    Calls Try.prog 43 #[.string k, .string u] w fun e w' => e = .returned (.tuple #[.string S, .int .i64 0]) ∧ Below w.heap.size w w' := by
  go_enter Try.func43, Try.ntmps43
  go_wp2_with fail
  refine (CK _).mono ?_
  rintro e w1 ⟨rfl, hb1⟩
  have hB1 := hb1
  have h01 := hB1.size
  clear hb1 CK
  go_wp2_with fail
  refine (CU _).mono ?_
  rintro e w2 ⟨rfl, hb2⟩
  have An := (Arr.mk4 (w := w1.alloc (.cells #[.int .u64 (lim K 0), .int .u64 (lim K 1), .int .u64 (lim K 2), .int .u64 (lim K 3)] 24)) (f := fun j => .int .u64 (lim (K) j)) (b := w1.heap.size) (by simp [go_sem]) (by simp [go_sem]) (by simp [go_sem]) (by simp [go_sem]) (by simp [go_sem]) (by simp [go_sem]) (by simp [go_sem]) (by simp [go_sem])).below hb2 (by go_size)
  have h12 := An.lt
  have hB2 := Bel.call (Bel.al hB1 (.cells #[.int .u64 (lim K 0), .int .u64 (lim K 1), .int .u64 (lim K 2), .int .u64 (lim K 3)] 24)) hb2
  clear hb2 CU hB1
  go_wp2_with fail
  go_loopw [13] (fun i wr => ∃ (m : Nat) (A C B D : Int), m ≤ 255 ∧ i = .int .i64 ((m : Int) - 1) ∧ RR w w1 w2 wr K U A C B D ∧ Hid (lsts U (upto K 255 (255 - m)) = (A, C, B, D))) (fun i _ => (intOf i + 1).toNat)
  case atStart =>
    have l10 : lim 1 0 = 1 := by decide
    have l11 : lim 1 1 = 0 := by decide
    have l12 : lim 1 2 = 0 := by decide
    have l13 : lim 1 3 = 0 := by decide
    have l00 : lim 0 0 = 0 := by decide
    have l01 : lim 0 1 = 0 := by decide
    have l02 : lim 0 2 = 0 := by decide
    have l03 : lim 0 3 = 0 := by decide
    exact ⟨255, 1, 0, U, 1, by omega, rfl, ⟨Bel.al (Bel.al (Bel.al (Bel.al (Bel.al hB2 _) _) _) _) _, ⟨h01, h12⟩, Arr.al' (Arr.al' (Arr.al' (Arr.al' (Arr.al' An _) _) _) _) _, Arr.mk4 (by simp [go_sem]) (by simp [go_sem]) (by simp [go_sem]) (by simp [go_sem]) (by simp [go_sem]) (by simp [go_sem]) (by simp [go_sem]) (by simp [go_sem]), Arr.mk4 (by simp [go_sem, l10, l11, l12, l13, l00, l01, l02, l03]) (by simp [go_sem, l10, l11, l12, l13, l00, l01, l02, l03]) (by simp [go_sem, l10, l11, l12, l13, l00, l01, l02, l03]) (by simp [go_sem, l10, l11, l12, l13, l00, l01, l02, l03]) (by simp [go_sem, l10, l11, l12, l13, l00, l01, l02, l03]) (by simp [go_sem, l10, l11, l12, l13, l00, l01, l02, l03]) (by simp [go_sem, l10, l11, l12, l13, l00, l01, l02, l03]) (by simp [go_sem, l10, l11, l12, l13, l00, l01, l02, l03]), Arr.mk4 (by simp [go_sem, l10, l11, l12, l13, l00, l01, l02, l03]) (by simp [go_sem, l10, l11, l12, l13, l00, l01, l02, l03]) (by simp [go_sem, l10, l11, l12, l13, l00, l01, l02, l03]) (by simp [go_sem, l10, l11, l12, l13, l00, l01, l02, l03]) (by simp [go_sem, l10, l11, l12, l13, l00, l01, l02, l03]) (by simp [go_sem, l10, l11, l12, l13, l00, l01, l02, l03]) (by simp [go_sem, l10, l11, l12, l13, l00, l01, l02, l03]) (by simp [go_sem, l10, l11, l12, l13, l00, l01, l02, l03]), Arr.mk4 (by simp [go_sem]) (by simp [go_sem]) (by simp [go_sem]) (by simp [go_sem]) (by simp [go_sem]) (by simp [go_sem]) (by simp [go_sem]) (by simp [go_sem]), Arr.mk4 (by simp [go_sem, l10, l11, l12, l13, l00, l01, l02, l03]) (by simp [go_sem, l10, l11, l12, l13, l00, l01, l02, l03]) (by simp [go_sem, l10, l11, l12, l13, l00, l01, l02, l03]) (by simp [go_sem, l10, l11, l12, l13, l00, l01, l02, l03]) (by simp [go_sem, l10, l11, l12, l13, l00, l01, l02, l03]) (by simp [go_sem, l10, l11, l12, l13, l00, l01, l02, l03]) (by simp [go_sem, l10, l11, l12, l13, l00, l01, l02, l03]) (by simp [go_sem, l10, l11, l12, l13, l00, l01, l02, l03])⟩, rfl⟩
  case round =>
    clear An hB2
    obtain ⟨m, A, C, B, D, hm, rfl, HR, HS⟩ := hrel
    obtain ⟨hB, _, An, Ax, Aa, Ac, Ab, Ad⟩ := HR
    by_cases hm0 : m = 0
    · subst hm0
      have hs := HS.out
      rw [show 255 - 0 = 255 from rfl] at hs
      rw [hs] at CP CM
      clear hs HS
      replace CP : ∀ W, Calls Try.prog 39 #[nv C, nv (pp - 2), nv pp] W fun e w' => e = .returned (nv Y) ∧ Below W.heap.size W w' := CP
      replace CM : ∀ W, Calls Try.prog 78 #[nv A, nv Y] W fun e w' => e = .returned (nv R) ∧ Below W.heap.size W w' := CM
      go_wp2_with fail
      refine (p79 _).mono ?_
      rintro e w11 ⟨rfl, hb⟩
      replace Aa := Arr.to' Aa hb
      replace Ac := Arr.to' Ac hb
      replace hB := Bel.call hB hb
      clear hb An Ax Ab Ad
      go_wp2_with fail
      refine (CS _).mono ?_
      rintro e w12 ⟨rfl, hb⟩
      replace Aa := Arr.to' Aa hb
      replace Ac := Arr.to' Ac hb
      replace hB := Bel.call hB hb
      clear hb CS
      have la_1 := Aa.lt
      have lc_1 := Ac.lt
      have lB_1 := hB.size
      replace Aa := (Arr.al' Aa (.cells #[.int .u64 (lim (pp - 2) 0), .int .u64 (lim (pp - 2) 1), .int .u64 (lim (pp - 2) 2), .int .u64 (lim (pp - 2) 3)] 24))
      replace Ac := (Arr.al' Ac (.cells #[.int .u64 (lim (pp - 2) 0), .int .u64 (lim (pp - 2) 1), .int .u64 (lim (pp - 2) 2), .int .u64 (lim (pp - 2) 3)] 24))
      have At : Arr ((w12.alloc (.cells #[.int .u64 (lim (pp - 2) 0), .int .u64 (lim (pp - 2) 1), .int .u64 (lim (pp - 2) 2), .int .u64 (lim (pp - 2) 3)] 24))) (w12.heap.size) 4 (fun j => .int .u64 (lim (pp - 2) j)) := by refine Arr.mk4 ?_ ?_ ?_ ?_ ?_ ?_ ?_ ?_ <;> simp [go_sem]
      replace hB := (Bel.al hB (.cells #[.int .u64 (lim (pp - 2) 0), .int .u64 (lim (pp - 2) 1), .int .u64 (lim (pp - 2) 2), .int .u64 (lim (pp - 2) 3)] 24))
      have ra0 := fun ds os => cell_regrown (Aa.c 0 (by omega)) ds os
      have ra1 := fun ds os => cell_regrown (Aa.c 1 (by omega)) ds os
      have ra2 := fun ds os => cell_regrown (Aa.c 2 (by omega)) ds os
      have ra3 := fun ds os => cell_regrown (Aa.c 3 (by omega)) ds os
      have rc0 := fun ds os => cell_regrown (Ac.c 0 (by omega)) ds os
      have rc1 := fun ds os => cell_regrown (Ac.c 1 (by omega)) ds os
      have rc2 := fun ds os => cell_regrown (Ac.c 2 (by omega)) ds os
      have rc3 := fun ds os => cell_regrown (Ac.c 3 (by omega)) ds os
      have rt0 := fun ds os => cell_regrown (At.c 0 (by omega)) ds os
      have rt1 := fun ds os => cell_regrown (At.c 1 (by omega)) ds os
      have rt2 := fun ds os => cell_regrown (At.c 2 (by omega)) ds os
      have rt3 := fun ds os => cell_regrown (At.c 3 (by omega)) ds os
      go_wp2_with fail
      refine wp_region_quiet_below (by kernel_rfl) (by kernel_rfl) ?_
      repeat (go_big_quiet_step (first | (go_at_call 79; exact Calls.regrown_of (p79 _)) | (go_at_call 39; exact Calls.regrown_of (CP _)) | (go_at_call 78; exact Calls.regrown_of (CM _)) | (go_at_call 19; exact Calls.regrown_of (CL _))))
      refine wpQuiet_nil ?_
      intro w3 hw'
      obtain ⟨⟨dq, osq⟩, hw''⟩ := hw'
      have hb := below_of hw''
      clear hw''
      replace hB := Bel.call hB hb
      clear hb ra0 ra1 ra2 ra3 rc0 rc1 rc2 rc3 rt0 rt1 rt2 rt3 Aa Ac At CP CM CL
      go_wp2_with fail
      go_returns
      exact ⟨rfl, hB⟩
    obtain ⟨j, rfl⟩ : ∃ j, m = j + 1 := ⟨m - 1, by omega⟩
    have ej : ((j + 1 : Nat) : Int) - 1 = (j : Int) := by omega
    rw [ej]
    have j0 : (0 : Int) ≤ (j : Int) := by omega
    have j1 : (j : Int) < 255 := by omega
    have i4 := inn4_sts U iU (upto K 255 (255 - (j + 1)))
    rw [HS.out] at i4
    obtain ⟨iA, iC, iB, iD⟩ := i4
    replace iA : Inn A := iA
    replace iC : Inn C := iC
    replace iB : Inn B := iB
    replace iD : Inn D := iD
    clear CP CM CS CL
    have hbb : K / 2 ^ j % 2 = 0 ∨ K / 2 ^ j % 2 = 1 := by omega
    rcases hbb with hbit | hbit
    · have HN : Hid (lsts U (upto K 255 (255 - j)) = (sa A C, sc' A C, sb A C B D, sd A C B D U)) := by
        show lsts U (upto K 255 (255 - j)) = _
        rw [show 255 - j = 255 - (j + 1) + 1 by omega, upto_succ, lsts_snoc, HS.out, show 255 - 1 - (255 - (j + 1)) = j by omega]
        have eb : bitB K j = false := by unfold bitB; simp [hbit]
        rw [eb]; rfl
      have CB : ∀ W, Calls Try.prog 72 #[nv K, .int .i64 (j : Int)] W fun e w' => e = .returned (.int .u64 0) ∧ Below W.heap.size W w' := fun W => by
        have := refBit_in K j (j / 64) (j % 64) (by omega) (by omega) (by omega) W
        rw [hbit] at this
        exact this
      clear HS hbit
      have cn := An.c
      go_wp2_with fail
      refine (CB _).mono ?_
      rintro e w11 ⟨rfl, hb⟩
      replace An := Arr.to' An hb
      replace Ax := Arr.to' Ax hb
      replace Aa := Arr.to' Aa hb
      replace Ac := Arr.to' Ac hb
      replace Ab := Arr.to' Ab hb
      replace Ad := Arr.to' Ad hb
      replace hB := Bel.call hB hb
      clear hb cn CB
      have ca := Aa.c
      have za := Aa.z
      have cb := Ab.c
      have zb := Ab.z
      have cc := Ac.c
      have zc := Ac.z
      have cd := Ad.c
      have zd := Ad.z
      go_wp2_with fail
      refine (radd A C iA iC _).mono ?_
      rintro e w12 ⟨rfl, hb⟩
      replace An := Arr.to' An hb
      replace Ax := Arr.to' Ax hb
      replace Aa := Arr.to' Aa hb
      replace Ac := Arr.to' Ac hb
      replace Ab := Arr.to' Ab hb
      replace Ad := Arr.to' Ad hb
      replace hB := Bel.call hB hb
      clear hb ca za cb zb cc zc cd zd
      have ln_1 := An.lt
      have lx_1 := Ax.lt
      have la_1 := Aa.lt
      have lc_1 := Ac.lt
      have lb_1 := Ab.lt
      have ld_1 := Ad.lt
      have lB_1 := hB.size
      replace An := (Arr.al' An (.cells #[.int .u64 (lim (fa A C) 0), .int .u64 (lim (fa A C) 1), .int .u64 (lim (fa A C) 2), .int .u64 (lim (fa A C) 3)] 24))
      replace Ax := (Arr.al' Ax (.cells #[.int .u64 (lim (fa A C) 0), .int .u64 (lim (fa A C) 1), .int .u64 (lim (fa A C) 2), .int .u64 (lim (fa A C) 3)] 24))
      replace Aa := (Arr.al' Aa (.cells #[.int .u64 (lim (fa A C) 0), .int .u64 (lim (fa A C) 1), .int .u64 (lim (fa A C) 2), .int .u64 (lim (fa A C) 3)] 24))
      replace Ac := (Arr.al' Ac (.cells #[.int .u64 (lim (fa A C) 0), .int .u64 (lim (fa A C) 1), .int .u64 (lim (fa A C) 2), .int .u64 (lim (fa A C) 3)] 24))
      replace Ab := (Arr.al' Ab (.cells #[.int .u64 (lim (fa A C) 0), .int .u64 (lim (fa A C) 1), .int .u64 (lim (fa A C) 2), .int .u64 (lim (fa A C) 3)] 24))
      replace Ad := (Arr.al' Ad (.cells #[.int .u64 (lim (fa A C) 0), .int .u64 (lim (fa A C) 1), .int .u64 (lim (fa A C) 2), .int .u64 (lim (fa A C) 3)] 24))
      have As : Arr ((w12.alloc (.cells #[.int .u64 (lim (fa A C) 0), .int .u64 (lim (fa A C) 1), .int .u64 (lim (fa A C) 2), .int .u64 (lim (fa A C) 3)] 24))) (w12.heap.size) 4 (fun j => .int .u64 (lim (fa A C) j)) := by refine Arr.mk4 ?_ ?_ ?_ ?_ ?_ ?_ ?_ ?_ <;> simp [go_sem]
      replace hB := (Bel.al hB (.cells #[.int .u64 (lim (fa A C) 0), .int .u64 (lim (fa A C) 1), .int .u64 (lim (fa A C) 2), .int .u64 (lim (fa A C) 3)] 24))
      have ca := Aa.c
      have cc := Ac.c
      go_wp2_with fail
      refine (rsub A C iA iC _).mono ?_
      rintro e w13 ⟨rfl, hb⟩
      replace An := Arr.to' An hb
      replace Ax := Arr.to' Ax hb
      replace Aa := Arr.to' Aa hb
      replace Ac := Arr.to' Ac hb
      replace Ab := Arr.to' Ab hb
      replace Ad := Arr.to' Ad hb
      replace As := Arr.to' As hb
      replace hB := Bel.call hB hb
      clear hb ca cc
      have ln_2 := An.lt
      have lx_2 := Ax.lt
      have la_2 := Aa.lt
      have lc_2 := Ac.lt
      have lb_2 := Ab.lt
      have ld_2 := Ad.lt
      have ls_2 := As.lt
      have lB_2 := hB.size
      replace An := (Arr.al' An (.cells #[.int .u64 (lim (fs A C) 0), .int .u64 (lim (fs A C) 1), .int .u64 (lim (fs A C) 2), .int .u64 (lim (fs A C) 3)] 24))
      replace Ax := (Arr.al' Ax (.cells #[.int .u64 (lim (fs A C) 0), .int .u64 (lim (fs A C) 1), .int .u64 (lim (fs A C) 2), .int .u64 (lim (fs A C) 3)] 24))
      replace Aa := (Arr.al' Aa (.cells #[.int .u64 (lim (fs A C) 0), .int .u64 (lim (fs A C) 1), .int .u64 (lim (fs A C) 2), .int .u64 (lim (fs A C) 3)] 24))
      replace Ac := (Arr.al' Ac (.cells #[.int .u64 (lim (fs A C) 0), .int .u64 (lim (fs A C) 1), .int .u64 (lim (fs A C) 2), .int .u64 (lim (fs A C) 3)] 24))
      replace Ab := (Arr.al' Ab (.cells #[.int .u64 (lim (fs A C) 0), .int .u64 (lim (fs A C) 1), .int .u64 (lim (fs A C) 2), .int .u64 (lim (fs A C) 3)] 24))
      replace Ad := (Arr.al' Ad (.cells #[.int .u64 (lim (fs A C) 0), .int .u64 (lim (fs A C) 1), .int .u64 (lim (fs A C) 2), .int .u64 (lim (fs A C) 3)] 24))
      replace As := (Arr.al' As (.cells #[.int .u64 (lim (fs A C) 0), .int .u64 (lim (fs A C) 1), .int .u64 (lim (fs A C) 2), .int .u64 (lim (fs A C) 3)] 24))
      have At : Arr ((w13.alloc (.cells #[.int .u64 (lim (fs A C) 0), .int .u64 (lim (fs A C) 1), .int .u64 (lim (fs A C) 2), .int .u64 (lim (fs A C) 3)] 24))) (w13.heap.size) 4 (fun j => .int .u64 (lim (fs A C) j)) := by refine Arr.mk4 ?_ ?_ ?_ ?_ ?_ ?_ ?_ ?_ <;> simp [go_sem]
      replace hB := (Bel.al hB (.cells #[.int .u64 (lim (fs A C) 0), .int .u64 (lim (fs A C) 1), .int .u64 (lim (fs A C) 2), .int .u64 (lim (fs A C) 3)] 24))
      go_wp2_with fail
      apply wp_region_alloc_tail 5 (by kernel_rfl) (by kernel_rfl) (by kernel_rfl) (.cells #[.int .u64 0, .int .u64 0, .int .u64 0, .int .u64 0] 24) _ rfl (fun _ _ => by simp [go_sem])
      · intro W hW
        have rb0 := fun ds os => cell_regrown ((Arr.to' Ab hW).c 0 (by omega)) ds os
        have rb1 := fun ds os => cell_regrown ((Arr.to' Ab hW).c 1 (by omega)) ds os
        have rb2 := fun ds os => cell_regrown ((Arr.to' Ab hW).c 2 (by omega)) ds os
        have rb3 := fun ds os => cell_regrown ((Arr.to' Ab hW).c 3 (by omega)) ds os
        have rd0 := fun ds os => cell_regrown ((Arr.to' Ad hW).c 0 (by omega)) ds os
        have rd1 := fun ds os => cell_regrown ((Arr.to' Ad hW).c 1 (by omega)) ds os
        have rd2 := fun ds os => cell_regrown ((Arr.to' Ad hW).c 2 (by omega)) ds os
        have rd3 := fun ds os => cell_regrown ((Arr.to' Ad hW).c 3 (by omega)) ds os
        have rs0 := fun ds os => cell_regrown ((Arr.to' As hW).c 0 (by omega)) ds os
        have rs1 := fun ds os => cell_regrown ((Arr.to' As hW).c 1 (by omega)) ds os
        have rs2 := fun ds os => cell_regrown ((Arr.to' As hW).c 2 (by omega)) ds os
        have rs3 := fun ds os => cell_regrown ((Arr.to' As hW).c 3 (by omega)) ds os
        simp only [List.take_succ_cons, List.take_zero]
        repeat (go_big_quiet_step (first | (go_at_call 77; with_reducible exact Calls.regrown_of (rsub _ _ (by first | exact inn_fm _ _ | exact inn_fa _ _ | exact inn_fs _ _ | assumption) (by first | exact inn_fm _ _ | exact inn_fa _ _ | exact inn_fs _ _ | assumption) _)) | (go_at_call 78; with_reducible exact Calls.regrown_of (rmul _ _ (by first | exact inn_fm _ _ | exact inn_fa _ _ | exact inn_fs _ _ | assumption) (by first | exact inn_fm _ _ | exact inn_fa _ _ | exact inn_fs _ _ | assumption) _))))
        exact wpQuiet_nil rfl
      intro u4 w14 hb1 hb2
      simp only [List.drop_succ_cons, List.drop_zero, Act.put, List.setIfInBounds_toArray, List.set_cons_succ, List.set_cons_zero]
      have En := Arr.to' An hb1
      have ln_u4 := En.lt
      have Bn := Arr.to' (Arr.al' En _) hb2
      have Ex := Arr.to' Ax hb1
      have lx_u4 := Ex.lt
      have Bx := Arr.to' (Arr.al' Ex _) hb2
      have Ea := Arr.to' Aa hb1
      have la_u4 := Ea.lt
      have Ba := Arr.to' (Arr.al' Ea _) hb2
      have Ec := Arr.to' Ac hb1
      have lc_u4 := Ec.lt
      have Bc := Arr.to' (Arr.al' Ec _) hb2
      have Eb := Arr.to' Ab hb1
      have lb_u4 := Eb.lt
      have Bb := Arr.to' (Arr.al' Eb _) hb2
      have Ed := Arr.to' Ad hb1
      have ld_u4 := Ed.lt
      have Bd := Arr.to' (Arr.al' Ed _) hb2
      have Es := Arr.to' As hb1
      have ls_u4 := Es.lt
      have Bs := Arr.to' (Arr.al' Es _) hb2
      have Et := Arr.to' At hb1
      have lt_u4 := Et.lt
      have Bt := Arr.to' (Arr.al' Et _) hb2
      have Bp := (Arr.mk4 (w := (u4.alloc (.cells #[.int .u64 0, .int .u64 0, .int .u64 0, .int .u64 0] 24))) (f := fun _ => .int .u64 0) (b := u4.heap.size) (by simp [go_sem]) (by simp [go_sem]) (by simp [go_sem]) (by simp [go_sem]) (by simp [go_sem]) (by simp [go_sem]) (by simp [go_sem]) (by simp [go_sem])).below hb2 (by go_size)
      have lB_u4 := (Bel.call hB hb1).size
      have hB' := Bel.call (Bel.al (Bel.call hB hb1) _) hb2
      clear hb1 hb2 En Ex Ea Ec Eb Ed Es Et An Ax Aa Ac Ab Ad As At hB
      have An := Bn
      have Ax := Bx
      have Aa := Ba
      have Ac := Bc
      have Ab := Bb
      have Ad := Bd
      have As := Bs
      have At := Bt
      have Ap := Bp
      have hB := hB'
      clear Bn Bx Ba Bc Bb Bd Bs Bt Bp hB'
      have cp := Ap.c
      have zp := Ap.z
      have Bn := Arr.st4o (b' := u4.heap.size) An (by have := An.lt; have := Ap.lt; omega) (fm (fs B D) (fa A C))
      have Bx := Arr.st4o (b' := u4.heap.size) Ax (by have := Ax.lt; have := Ap.lt; omega) (fm (fs B D) (fa A C))
      have Ba := Arr.st4o (b' := u4.heap.size) Aa (by have := Aa.lt; have := Ap.lt; omega) (fm (fs B D) (fa A C))
      have Bc := Arr.st4o (b' := u4.heap.size) Ac (by have := Ac.lt; have := Ap.lt; omega) (fm (fs B D) (fa A C))
      have Bb := Arr.st4o (b' := u4.heap.size) Ab (by have := Ab.lt; have := Ap.lt; omega) (fm (fs B D) (fa A C))
      have Bd := Arr.st4o (b' := u4.heap.size) Ad (by have := Ad.lt; have := Ap.lt; omega) (fm (fs B D) (fa A C))
      have Bs := Arr.st4o (b' := u4.heap.size) As (by have := As.lt; have := Ap.lt; omega) (fm (fs B D) (fa A C))
      have Bt := Arr.st4o (b' := u4.heap.size) At (by have := At.lt; have := Ap.lt; omega) (fm (fs B D) (fa A C))
      have Bp := Arr.st4 Ap (fm (fs B D) (fa A C))
      have hB' := Bel.st4 hB (b := u4.heap.size) (by have := hB.size; omega) (fm (fs B D) (fa A C))
      clear An Ax Aa Ac Ab Ad As At Ap hB
      have An := Bn
      have Ax := Bx
      have Aa := Ba
      have Ac := Bc
      have Ab := Bb
      have Ad := Bd
      have As := Bs
      have At := Bt
      have Ap := Bp
      have hB := hB'
      clear Bn Bx Ba Bc Bb Bd Bs Bt Bp hB'
      go_wp2_with fail
      apply wp_region_alloc_tail 5 (by kernel_rfl) (by kernel_rfl) (by kernel_rfl) (.cells #[.int .u64 0, .int .u64 0, .int .u64 0, .int .u64 0] 24) _ rfl (fun _ _ => by simp [go_sem])
      · intro W hW
        have rb0 := fun ds os => cell_regrown ((Arr.to' Ab hW).c 0 (by omega)) ds os
        have rb1 := fun ds os => cell_regrown ((Arr.to' Ab hW).c 1 (by omega)) ds os
        have rb2 := fun ds os => cell_regrown ((Arr.to' Ab hW).c 2 (by omega)) ds os
        have rb3 := fun ds os => cell_regrown ((Arr.to' Ab hW).c 3 (by omega)) ds os
        have rd0 := fun ds os => cell_regrown ((Arr.to' Ad hW).c 0 (by omega)) ds os
        have rd1 := fun ds os => cell_regrown ((Arr.to' Ad hW).c 1 (by omega)) ds os
        have rd2 := fun ds os => cell_regrown ((Arr.to' Ad hW).c 2 (by omega)) ds os
        have rd3 := fun ds os => cell_regrown ((Arr.to' Ad hW).c 3 (by omega)) ds os
        have rt0 := fun ds os => cell_regrown ((Arr.to' At hW).c 0 (by omega)) ds os
        have rt1 := fun ds os => cell_regrown ((Arr.to' At hW).c 1 (by omega)) ds os
        have rt2 := fun ds os => cell_regrown ((Arr.to' At hW).c 2 (by omega)) ds os
        have rt3 := fun ds os => cell_regrown ((Arr.to' At hW).c 3 (by omega)) ds os
        simp only [List.take_succ_cons, List.take_zero]
        repeat (go_big_quiet_step (first | (go_at_call 76; with_reducible exact Calls.regrown_of (radd _ _ (by first | exact inn_fm _ _ | exact inn_fa _ _ | exact inn_fs _ _ | assumption) (by first | exact inn_fm _ _ | exact inn_fa _ _ | exact inn_fs _ _ | assumption) _)) | (go_at_call 78; with_reducible exact Calls.regrown_of (rmul _ _ (by first | exact inn_fm _ _ | exact inn_fa _ _ | exact inn_fs _ _ | assumption) (by first | exact inn_fm _ _ | exact inn_fa _ _ | exact inn_fs _ _ | assumption) _))))
        exact wpQuiet_nil rfl
      intro u5 w15 hb1 hb2
      simp only [List.drop_succ_cons, List.drop_zero, Act.put, List.setIfInBounds_toArray, List.set_cons_succ, List.set_cons_zero]
      have En := Arr.to' An hb1
      have ln_u5 := En.lt
      have Bn := Arr.to' (Arr.al' En _) hb2
      have Ex := Arr.to' Ax hb1
      have lx_u5 := Ex.lt
      have Bx := Arr.to' (Arr.al' Ex _) hb2
      have Ea := Arr.to' Aa hb1
      have la_u5 := Ea.lt
      have Ba := Arr.to' (Arr.al' Ea _) hb2
      have Ec := Arr.to' Ac hb1
      have lc_u5 := Ec.lt
      have Bc := Arr.to' (Arr.al' Ec _) hb2
      have Eb := Arr.to' Ab hb1
      have lb_u5 := Eb.lt
      have Bb := Arr.to' (Arr.al' Eb _) hb2
      have Ed := Arr.to' Ad hb1
      have ld_u5 := Ed.lt
      have Bd := Arr.to' (Arr.al' Ed _) hb2
      have Es := Arr.to' As hb1
      have ls_u5 := Es.lt
      have Bs := Arr.to' (Arr.al' Es _) hb2
      have Et := Arr.to' At hb1
      have lt_u5 := Et.lt
      have Bt := Arr.to' (Arr.al' Et _) hb2
      have Ep := Arr.to' Ap hb1
      have lp_u5 := Ep.lt
      have Bp := Arr.to' (Arr.al' Ep _) hb2
      have Bq := (Arr.mk4 (w := (u5.alloc (.cells #[.int .u64 0, .int .u64 0, .int .u64 0, .int .u64 0] 24))) (f := fun _ => .int .u64 0) (b := u5.heap.size) (by simp [go_sem]) (by simp [go_sem]) (by simp [go_sem]) (by simp [go_sem]) (by simp [go_sem]) (by simp [go_sem]) (by simp [go_sem]) (by simp [go_sem])).below hb2 (by go_size)
      have lB_u5 := (Bel.call hB hb1).size
      have hB' := Bel.call (Bel.al (Bel.call hB hb1) _) hb2
      clear hb1 hb2 En Ex Ea Ec Eb Ed Es Et Ep An Ax Aa Ac Ab Ad As At Ap hB
      have An := Bn
      have Ax := Bx
      have Aa := Ba
      have Ac := Bc
      have Ab := Bb
      have Ad := Bd
      have As := Bs
      have At := Bt
      have Ap := Bp
      have Aq := Bq
      have hB := hB'
      clear Bn Bx Ba Bc Bb Bd Bs Bt Bp Bq hB'
      have cq := Aq.c
      have zq := Aq.z
      have Bn := Arr.st4o (b' := u5.heap.size) An (by have := An.lt; have := Aq.lt; omega) (fm (fa B D) (fs A C))
      have Bx := Arr.st4o (b' := u5.heap.size) Ax (by have := Ax.lt; have := Aq.lt; omega) (fm (fa B D) (fs A C))
      have Ba := Arr.st4o (b' := u5.heap.size) Aa (by have := Aa.lt; have := Aq.lt; omega) (fm (fa B D) (fs A C))
      have Bc := Arr.st4o (b' := u5.heap.size) Ac (by have := Ac.lt; have := Aq.lt; omega) (fm (fa B D) (fs A C))
      have Bb := Arr.st4o (b' := u5.heap.size) Ab (by have := Ab.lt; have := Aq.lt; omega) (fm (fa B D) (fs A C))
      have Bd := Arr.st4o (b' := u5.heap.size) Ad (by have := Ad.lt; have := Aq.lt; omega) (fm (fa B D) (fs A C))
      have Bs := Arr.st4o (b' := u5.heap.size) As (by have := As.lt; have := Aq.lt; omega) (fm (fa B D) (fs A C))
      have Bt := Arr.st4o (b' := u5.heap.size) At (by have := At.lt; have := Aq.lt; omega) (fm (fa B D) (fs A C))
      have Bp := Arr.st4o (b' := u5.heap.size) Ap (by have := Ap.lt; have := Aq.lt; omega) (fm (fa B D) (fs A C))
      have Bq := Arr.st4 Aq (fm (fa B D) (fs A C))
      have hB' := Bel.st4 hB (b := u5.heap.size) (by have := hB.size; omega) (fm (fa B D) (fs A C))
      clear An Ax Aa Ac Ab Ad As At Ap Aq hB
      have An := Bn
      have Ax := Bx
      have Aa := Ba
      have Ac := Bc
      have Ab := Bb
      have Ad := Bd
      have As := Bs
      have At := Bt
      have Ap := Bp
      have Aq := Bq
      have hB := hB'
      clear Bn Bx Ba Bc Bb Bd Bs Bt Bp Bq hB'
      have cs := As.c
      go_wp2_with fail
      refine (rmul (fa A C) (fa A C) (inn_fa _ _) (inn_fa _ _) _).mono ?_
      rintro e w16 ⟨rfl, hb⟩
      replace An := Arr.to' An hb
      replace Ax := Arr.to' Ax hb
      replace Aa := Arr.to' Aa hb
      replace Ac := Arr.to' Ac hb
      replace Ab := Arr.to' Ab hb
      replace Ad := Arr.to' Ad hb
      replace At := Arr.to' At hb
      replace Ap := Arr.to' Ap hb
      replace Aq := Arr.to' Aq hb
      replace hB := Bel.call hB hb
      clear hb cq zq cs As
      have ln_3 := An.lt
      have lx_3 := Ax.lt
      have la_3 := Aa.lt
      have lc_3 := Ac.lt
      have lb_3 := Ab.lt
      have ld_3 := Ad.lt
      have lt_3 := At.lt
      have lp_3 := Ap.lt
      have lq_3 := Aq.lt
      have lB_3 := hB.size
      replace An := (Arr.al' An (.cells #[.int .u64 (lim (fm (fa A C) (fa A C)) 0), .int .u64 (lim (fm (fa A C) (fa A C)) 1), .int .u64 (lim (fm (fa A C) (fa A C)) 2), .int .u64 (lim (fm (fa A C) (fa A C)) 3)] 24))
      replace Ax := (Arr.al' Ax (.cells #[.int .u64 (lim (fm (fa A C) (fa A C)) 0), .int .u64 (lim (fm (fa A C) (fa A C)) 1), .int .u64 (lim (fm (fa A C) (fa A C)) 2), .int .u64 (lim (fm (fa A C) (fa A C)) 3)] 24))
      replace Aa := (Arr.al' Aa (.cells #[.int .u64 (lim (fm (fa A C) (fa A C)) 0), .int .u64 (lim (fm (fa A C) (fa A C)) 1), .int .u64 (lim (fm (fa A C) (fa A C)) 2), .int .u64 (lim (fm (fa A C) (fa A C)) 3)] 24))
      replace Ac := (Arr.al' Ac (.cells #[.int .u64 (lim (fm (fa A C) (fa A C)) 0), .int .u64 (lim (fm (fa A C) (fa A C)) 1), .int .u64 (lim (fm (fa A C) (fa A C)) 2), .int .u64 (lim (fm (fa A C) (fa A C)) 3)] 24))
      replace Ab := (Arr.al' Ab (.cells #[.int .u64 (lim (fm (fa A C) (fa A C)) 0), .int .u64 (lim (fm (fa A C) (fa A C)) 1), .int .u64 (lim (fm (fa A C) (fa A C)) 2), .int .u64 (lim (fm (fa A C) (fa A C)) 3)] 24))
      replace Ad := (Arr.al' Ad (.cells #[.int .u64 (lim (fm (fa A C) (fa A C)) 0), .int .u64 (lim (fm (fa A C) (fa A C)) 1), .int .u64 (lim (fm (fa A C) (fa A C)) 2), .int .u64 (lim (fm (fa A C) (fa A C)) 3)] 24))
      replace At := (Arr.al' At (.cells #[.int .u64 (lim (fm (fa A C) (fa A C)) 0), .int .u64 (lim (fm (fa A C) (fa A C)) 1), .int .u64 (lim (fm (fa A C) (fa A C)) 2), .int .u64 (lim (fm (fa A C) (fa A C)) 3)] 24))
      replace Ap := (Arr.al' Ap (.cells #[.int .u64 (lim (fm (fa A C) (fa A C)) 0), .int .u64 (lim (fm (fa A C) (fa A C)) 1), .int .u64 (lim (fm (fa A C) (fa A C)) 2), .int .u64 (lim (fm (fa A C) (fa A C)) 3)] 24))
      replace Aq := (Arr.al' Aq (.cells #[.int .u64 (lim (fm (fa A C) (fa A C)) 0), .int .u64 (lim (fm (fa A C) (fa A C)) 1), .int .u64 (lim (fm (fa A C) (fa A C)) 2), .int .u64 (lim (fm (fa A C) (fa A C)) 3)] 24))
      have Am : Arr ((w16.alloc (.cells #[.int .u64 (lim (fm (fa A C) (fa A C)) 0), .int .u64 (lim (fm (fa A C) (fa A C)) 1), .int .u64 (lim (fm (fa A C) (fa A C)) 2), .int .u64 (lim (fm (fa A C) (fa A C)) 3)] 24))) (w16.heap.size) 4 (fun j => .int .u64 (lim (fm (fa A C) (fa A C)) j)) := by refine Arr.mk4 ?_ ?_ ?_ ?_ ?_ ?_ ?_ ?_ <;> simp [go_sem]
      replace hB := (Bel.al hB (.cells #[.int .u64 (lim (fm (fa A C) (fa A C)) 0), .int .u64 (lim (fm (fa A C) (fa A C)) 1), .int .u64 (lim (fm (fa A C) (fa A C)) 2), .int .u64 (lim (fm (fa A C) (fa A C)) 3)] 24))
      have ct := At.c
      go_wp2_with fail
      refine (rmul (fs A C) (fs A C) (inn_fs _ _) (inn_fs _ _) _).mono ?_
      rintro e w17 ⟨rfl, hb⟩
      replace An := Arr.to' An hb
      replace Ax := Arr.to' Ax hb
      replace Aa := Arr.to' Aa hb
      replace Ac := Arr.to' Ac hb
      replace Ab := Arr.to' Ab hb
      replace Ad := Arr.to' Ad hb
      replace Ap := Arr.to' Ap hb
      replace Aq := Arr.to' Aq hb
      replace Am := Arr.to' Am hb
      replace hB := Bel.call hB hb
      clear hb ct At
      have ln_4 := An.lt
      have lx_4 := Ax.lt
      have la_4 := Aa.lt
      have lc_4 := Ac.lt
      have lb_4 := Ab.lt
      have ld_4 := Ad.lt
      have lp_4 := Ap.lt
      have lq_4 := Aq.lt
      have lm_4 := Am.lt
      have lB_4 := hB.size
      replace An := (Arr.al' An (.cells #[.int .u64 (lim (fm (fs A C) (fs A C)) 0), .int .u64 (lim (fm (fs A C) (fs A C)) 1), .int .u64 (lim (fm (fs A C) (fs A C)) 2), .int .u64 (lim (fm (fs A C) (fs A C)) 3)] 24))
      replace Ax := (Arr.al' Ax (.cells #[.int .u64 (lim (fm (fs A C) (fs A C)) 0), .int .u64 (lim (fm (fs A C) (fs A C)) 1), .int .u64 (lim (fm (fs A C) (fs A C)) 2), .int .u64 (lim (fm (fs A C) (fs A C)) 3)] 24))
      replace Aa := (Arr.al' Aa (.cells #[.int .u64 (lim (fm (fs A C) (fs A C)) 0), .int .u64 (lim (fm (fs A C) (fs A C)) 1), .int .u64 (lim (fm (fs A C) (fs A C)) 2), .int .u64 (lim (fm (fs A C) (fs A C)) 3)] 24))
      replace Ac := (Arr.al' Ac (.cells #[.int .u64 (lim (fm (fs A C) (fs A C)) 0), .int .u64 (lim (fm (fs A C) (fs A C)) 1), .int .u64 (lim (fm (fs A C) (fs A C)) 2), .int .u64 (lim (fm (fs A C) (fs A C)) 3)] 24))
      replace Ab := (Arr.al' Ab (.cells #[.int .u64 (lim (fm (fs A C) (fs A C)) 0), .int .u64 (lim (fm (fs A C) (fs A C)) 1), .int .u64 (lim (fm (fs A C) (fs A C)) 2), .int .u64 (lim (fm (fs A C) (fs A C)) 3)] 24))
      replace Ad := (Arr.al' Ad (.cells #[.int .u64 (lim (fm (fs A C) (fs A C)) 0), .int .u64 (lim (fm (fs A C) (fs A C)) 1), .int .u64 (lim (fm (fs A C) (fs A C)) 2), .int .u64 (lim (fm (fs A C) (fs A C)) 3)] 24))
      replace Ap := (Arr.al' Ap (.cells #[.int .u64 (lim (fm (fs A C) (fs A C)) 0), .int .u64 (lim (fm (fs A C) (fs A C)) 1), .int .u64 (lim (fm (fs A C) (fs A C)) 2), .int .u64 (lim (fm (fs A C) (fs A C)) 3)] 24))
      replace Aq := (Arr.al' Aq (.cells #[.int .u64 (lim (fm (fs A C) (fs A C)) 0), .int .u64 (lim (fm (fs A C) (fs A C)) 1), .int .u64 (lim (fm (fs A C) (fs A C)) 2), .int .u64 (lim (fm (fs A C) (fs A C)) 3)] 24))
      replace Am := (Arr.al' Am (.cells #[.int .u64 (lim (fm (fs A C) (fs A C)) 0), .int .u64 (lim (fm (fs A C) (fs A C)) 1), .int .u64 (lim (fm (fs A C) (fs A C)) 2), .int .u64 (lim (fm (fs A C) (fs A C)) 3)] 24))
      have Al : Arr ((w17.alloc (.cells #[.int .u64 (lim (fm (fs A C) (fs A C)) 0), .int .u64 (lim (fm (fs A C) (fs A C)) 1), .int .u64 (lim (fm (fs A C) (fs A C)) 2), .int .u64 (lim (fm (fs A C) (fs A C)) 3)] 24))) (w17.heap.size) 4 (fun j => .int .u64 (lim (fm (fs A C) (fs A C)) j)) := by refine Arr.mk4 ?_ ?_ ?_ ?_ ?_ ?_ ?_ ?_ <;> simp [go_sem]
      replace hB := (Bel.al hB (.cells #[.int .u64 (lim (fm (fs A C) (fs A C)) 0), .int .u64 (lim (fm (fs A C) (fs A C)) 1), .int .u64 (lim (fm (fs A C) (fs A C)) 2), .int .u64 (lim (fm (fs A C) (fs A C)) 3)] 24))
      have cm := Am.c
      go_wp2_with fail
      refine (rsub (fm (fa A C) (fa A C)) (fm (fs A C) (fs A C)) (inn_fm _ _) (inn_fm _ _) _).mono ?_
      rintro e w18 ⟨rfl, hb⟩
      replace An := Arr.to' An hb
      replace Ax := Arr.to' Ax hb
      replace Aa := Arr.to' Aa hb
      replace Ac := Arr.to' Ac hb
      replace Ab := Arr.to' Ab hb
      replace Ad := Arr.to' Ad hb
      replace Ap := Arr.to' Ap hb
      replace Aq := Arr.to' Aq hb
      replace Am := Arr.to' Am hb
      replace Al := Arr.to' Al hb
      replace hB := Bel.call hB hb
      clear hb cm
      have ln_5 := An.lt
      have lx_5 := Ax.lt
      have la_5 := Aa.lt
      have lc_5 := Ac.lt
      have lb_5 := Ab.lt
      have ld_5 := Ad.lt
      have lp_5 := Ap.lt
      have lq_5 := Aq.lt
      have lm_5 := Am.lt
      have ll_5 := Al.lt
      have lB_5 := hB.size
      replace An := (Arr.al' An (.cells #[.int .u64 (lim (fs (fm (fa A C) (fa A C)) (fm (fs A C) (fs A C))) 0), .int .u64 (lim (fs (fm (fa A C) (fa A C)) (fm (fs A C) (fs A C))) 1), .int .u64 (lim (fs (fm (fa A C) (fa A C)) (fm (fs A C) (fs A C))) 2), .int .u64 (lim (fs (fm (fa A C) (fa A C)) (fm (fs A C) (fs A C))) 3)] 24))
      replace Ax := (Arr.al' Ax (.cells #[.int .u64 (lim (fs (fm (fa A C) (fa A C)) (fm (fs A C) (fs A C))) 0), .int .u64 (lim (fs (fm (fa A C) (fa A C)) (fm (fs A C) (fs A C))) 1), .int .u64 (lim (fs (fm (fa A C) (fa A C)) (fm (fs A C) (fs A C))) 2), .int .u64 (lim (fs (fm (fa A C) (fa A C)) (fm (fs A C) (fs A C))) 3)] 24))
      replace Aa := (Arr.al' Aa (.cells #[.int .u64 (lim (fs (fm (fa A C) (fa A C)) (fm (fs A C) (fs A C))) 0), .int .u64 (lim (fs (fm (fa A C) (fa A C)) (fm (fs A C) (fs A C))) 1), .int .u64 (lim (fs (fm (fa A C) (fa A C)) (fm (fs A C) (fs A C))) 2), .int .u64 (lim (fs (fm (fa A C) (fa A C)) (fm (fs A C) (fs A C))) 3)] 24))
      replace Ac := (Arr.al' Ac (.cells #[.int .u64 (lim (fs (fm (fa A C) (fa A C)) (fm (fs A C) (fs A C))) 0), .int .u64 (lim (fs (fm (fa A C) (fa A C)) (fm (fs A C) (fs A C))) 1), .int .u64 (lim (fs (fm (fa A C) (fa A C)) (fm (fs A C) (fs A C))) 2), .int .u64 (lim (fs (fm (fa A C) (fa A C)) (fm (fs A C) (fs A C))) 3)] 24))
      replace Ab := (Arr.al' Ab (.cells #[.int .u64 (lim (fs (fm (fa A C) (fa A C)) (fm (fs A C) (fs A C))) 0), .int .u64 (lim (fs (fm (fa A C) (fa A C)) (fm (fs A C) (fs A C))) 1), .int .u64 (lim (fs (fm (fa A C) (fa A C)) (fm (fs A C) (fs A C))) 2), .int .u64 (lim (fs (fm (fa A C) (fa A C)) (fm (fs A C) (fs A C))) 3)] 24))
      replace Ad := (Arr.al' Ad (.cells #[.int .u64 (lim (fs (fm (fa A C) (fa A C)) (fm (fs A C) (fs A C))) 0), .int .u64 (lim (fs (fm (fa A C) (fa A C)) (fm (fs A C) (fs A C))) 1), .int .u64 (lim (fs (fm (fa A C) (fa A C)) (fm (fs A C) (fs A C))) 2), .int .u64 (lim (fs (fm (fa A C) (fa A C)) (fm (fs A C) (fs A C))) 3)] 24))
      replace Ap := (Arr.al' Ap (.cells #[.int .u64 (lim (fs (fm (fa A C) (fa A C)) (fm (fs A C) (fs A C))) 0), .int .u64 (lim (fs (fm (fa A C) (fa A C)) (fm (fs A C) (fs A C))) 1), .int .u64 (lim (fs (fm (fa A C) (fa A C)) (fm (fs A C) (fs A C))) 2), .int .u64 (lim (fs (fm (fa A C) (fa A C)) (fm (fs A C) (fs A C))) 3)] 24))
      replace Aq := (Arr.al' Aq (.cells #[.int .u64 (lim (fs (fm (fa A C) (fa A C)) (fm (fs A C) (fs A C))) 0), .int .u64 (lim (fs (fm (fa A C) (fa A C)) (fm (fs A C) (fs A C))) 1), .int .u64 (lim (fs (fm (fa A C) (fa A C)) (fm (fs A C) (fs A C))) 2), .int .u64 (lim (fs (fm (fa A C) (fa A C)) (fm (fs A C) (fs A C))) 3)] 24))
      replace Am := (Arr.al' Am (.cells #[.int .u64 (lim (fs (fm (fa A C) (fa A C)) (fm (fs A C) (fs A C))) 0), .int .u64 (lim (fs (fm (fa A C) (fa A C)) (fm (fs A C) (fs A C))) 1), .int .u64 (lim (fs (fm (fa A C) (fa A C)) (fm (fs A C) (fs A C))) 2), .int .u64 (lim (fs (fm (fa A C) (fa A C)) (fm (fs A C) (fs A C))) 3)] 24))
      replace Al := (Arr.al' Al (.cells #[.int .u64 (lim (fs (fm (fa A C) (fa A C)) (fm (fs A C) (fs A C))) 0), .int .u64 (lim (fs (fm (fa A C) (fa A C)) (fm (fs A C) (fs A C))) 1), .int .u64 (lim (fs (fm (fa A C) (fa A C)) (fm (fs A C) (fs A C))) 2), .int .u64 (lim (fs (fm (fa A C) (fa A C)) (fm (fs A C) (fs A C))) 3)] 24))
      have Ay : Arr ((w18.alloc (.cells #[.int .u64 (lim (fs (fm (fa A C) (fa A C)) (fm (fs A C) (fs A C))) 0), .int .u64 (lim (fs (fm (fa A C) (fa A C)) (fm (fs A C) (fs A C))) 1), .int .u64 (lim (fs (fm (fa A C) (fa A C)) (fm (fs A C) (fs A C))) 2), .int .u64 (lim (fs (fm (fa A C) (fa A C)) (fm (fs A C) (fs A C))) 3)] 24))) (w18.heap.size) 4 (fun j => .int .u64 (lim (fs (fm (fa A C) (fa A C)) (fm (fs A C) (fs A C))) j)) := by refine Arr.mk4 ?_ ?_ ?_ ?_ ?_ ?_ ?_ ?_ <;> simp [go_sem]
      replace hB := (Bel.al hB (.cells #[.int .u64 (lim (fs (fm (fa A C) (fa A C)) (fm (fs A C) (fs A C))) 0), .int .u64 (lim (fs (fm (fa A C) (fa A C)) (fm (fs A C) (fs A C))) 1), .int .u64 (lim (fs (fm (fa A C) (fa A C)) (fm (fs A C) (fs A C))) 2), .int .u64 (lim (fs (fm (fa A C) (fa A C)) (fm (fs A C) (fs A C))) 3)] 24))
      have rp0 := fun ds os => cell_regrown (Ap.c 0 (by omega)) ds os
      have rp1 := fun ds os => cell_regrown (Ap.c 1 (by omega)) ds os
      have rp2 := fun ds os => cell_regrown (Ap.c 2 (by omega)) ds os
      have rp3 := fun ds os => cell_regrown (Ap.c 3 (by omega)) ds os
      have rq0 := fun ds os => cell_regrown (Aq.c 0 (by omega)) ds os
      have rq1 := fun ds os => cell_regrown (Aq.c 1 (by omega)) ds os
      have rq2 := fun ds os => cell_regrown (Aq.c 2 (by omega)) ds os
      have rq3 := fun ds os => cell_regrown (Aq.c 3 (by omega)) ds os
      go_wp2_with fail
      refine wp_region_below_tail 7 (by kernel_rfl) (by kernel_rfl) ?_
      simp only [List.take_succ_cons, List.take_zero, List.drop_succ_cons, List.drop_zero]
      repeat (go_big_quiet_step (first | (go_at_call 76; with_reducible exact Calls.regrown_of (radd _ _ (by first | exact inn_fm _ _ | exact inn_fa _ _ | exact inn_fs _ _ | assumption) (by first | exact inn_fm _ _ | exact inn_fa _ _ | exact inn_fs _ _ | assumption) _)) | (go_at_call 78; with_reducible exact Calls.regrown_of (rmul _ _ (by first | exact inn_fm _ _ | exact inn_fa _ _ | exact inn_fs _ _ | assumption) (by first | exact inn_fm _ _ | exact inn_fa _ _ | exact inn_fs _ _ | assumption) _))))
      refine wpQuiet_nil ?_
      intro w9 hw'
      obtain ⟨⟨dq, osq⟩, hw''⟩ := hw'
      have hb := below_of hw''
      clear hw''
      replace An := Arr.to' An hb
      replace Ax := Arr.to' Ax hb
      replace Aa := Arr.to' Aa hb
      replace Ac := Arr.to' Ac hb
      replace Ab := Arr.to' Ab hb
      replace Ad := Arr.to' Ad hb
      replace Ap := Arr.to' Ap hb
      replace Aq := Arr.to' Aq hb
      replace Am := Arr.to' Am hb
      replace Al := Arr.to' Al hb
      replace Ay := Arr.to' Ay hb
      replace hB := Bel.call hB hb
      clear hb rp0 rp1 rp2 rp3 rq0 rq1 rq2 rq3
      have cb := Ab.c
      have zb := Ab.z
      have Bn := Arr.st4o (b' := w2.heap.size + 1 + 1 + 1) An (by have := An.lt; have := Ab.lt; omega) (fm (fa (fm (fs B D) (fa A C)) (fm (fa B D) (fs A C))) (fa (fm (fs B D) (fa A C)) (fm (fa B D) (fs A C))))
      have Bx := Arr.st4o (b' := w2.heap.size + 1 + 1 + 1) Ax (by have := Ax.lt; have := Ab.lt; omega) (fm (fa (fm (fs B D) (fa A C)) (fm (fa B D) (fs A C))) (fa (fm (fs B D) (fa A C)) (fm (fa B D) (fs A C))))
      have Ba := Arr.st4o (b' := w2.heap.size + 1 + 1 + 1) Aa (by have := Aa.lt; have := Ab.lt; omega) (fm (fa (fm (fs B D) (fa A C)) (fm (fa B D) (fs A C))) (fa (fm (fs B D) (fa A C)) (fm (fa B D) (fs A C))))
      have Bc := Arr.st4o (b' := w2.heap.size + 1 + 1 + 1) Ac (by have := Ac.lt; have := Ab.lt; omega) (fm (fa (fm (fs B D) (fa A C)) (fm (fa B D) (fs A C))) (fa (fm (fs B D) (fa A C)) (fm (fa B D) (fs A C))))
      have Bb := Arr.st4 Ab (fm (fa (fm (fs B D) (fa A C)) (fm (fa B D) (fs A C))) (fa (fm (fs B D) (fa A C)) (fm (fa B D) (fs A C))))
      have Bd := Arr.st4o (b' := w2.heap.size + 1 + 1 + 1) Ad (by have := Ad.lt; have := Ab.lt; omega) (fm (fa (fm (fs B D) (fa A C)) (fm (fa B D) (fs A C))) (fa (fm (fs B D) (fa A C)) (fm (fa B D) (fs A C))))
      have Bp := Arr.st4o (b' := w2.heap.size + 1 + 1 + 1) Ap (by have := Ap.lt; have := Ab.lt; omega) (fm (fa (fm (fs B D) (fa A C)) (fm (fa B D) (fs A C))) (fa (fm (fs B D) (fa A C)) (fm (fa B D) (fs A C))))
      have Bq := Arr.st4o (b' := w2.heap.size + 1 + 1 + 1) Aq (by have := Aq.lt; have := Ab.lt; omega) (fm (fa (fm (fs B D) (fa A C)) (fm (fa B D) (fs A C))) (fa (fm (fs B D) (fa A C)) (fm (fa B D) (fs A C))))
      have Bm := Arr.st4o (b' := w2.heap.size + 1 + 1 + 1) Am (by have := Am.lt; have := Ab.lt; omega) (fm (fa (fm (fs B D) (fa A C)) (fm (fa B D) (fs A C))) (fa (fm (fs B D) (fa A C)) (fm (fa B D) (fs A C))))
      have Bl := Arr.st4o (b' := w2.heap.size + 1 + 1 + 1) Al (by have := Al.lt; have := Ab.lt; omega) (fm (fa (fm (fs B D) (fa A C)) (fm (fa B D) (fs A C))) (fa (fm (fs B D) (fa A C)) (fm (fa B D) (fs A C))))
      have By := Arr.st4o (b' := w2.heap.size + 1 + 1 + 1) Ay (by have := Ay.lt; have := Ab.lt; omega) (fm (fa (fm (fs B D) (fa A C)) (fm (fa B D) (fs A C))) (fa (fm (fs B D) (fa A C)) (fm (fa B D) (fs A C))))
      have hB' := Bel.st4 hB (b := w2.heap.size + 1 + 1 + 1) (by have := hB.size; omega) (fm (fa (fm (fs B D) (fa A C)) (fm (fa B D) (fs A C))) (fa (fm (fs B D) (fa A C)) (fm (fa B D) (fs A C))))
      clear An Ax Aa Ac Ab Ad Ap Aq Am Al Ay hB
      have An := Bn
      have Ax := Bx
      have Aa := Ba
      have Ac := Bc
      have Ab := Bb
      have Ad := Bd
      have Ap := Bp
      have Aq := Bq
      have Am := Bm
      have Al := Bl
      have Ay := By
      have hB := hB'
      clear Bn Bx Ba Bc Bb Bd Bp Bq Bm Bl By hB'
      have rx0 := fun ds os => cell_regrown (Ax.c 0 (by omega)) ds os
      have rx1 := fun ds os => cell_regrown (Ax.c 1 (by omega)) ds os
      have rx2 := fun ds os => cell_regrown (Ax.c 2 (by omega)) ds os
      have rx3 := fun ds os => cell_regrown (Ax.c 3 (by omega)) ds os
      have rp0 := fun ds os => cell_regrown (Ap.c 0 (by omega)) ds os
      have rp1 := fun ds os => cell_regrown (Ap.c 1 (by omega)) ds os
      have rp2 := fun ds os => cell_regrown (Ap.c 2 (by omega)) ds os
      have rp3 := fun ds os => cell_regrown (Ap.c 3 (by omega)) ds os
      have rq0 := fun ds os => cell_regrown (Aq.c 0 (by omega)) ds os
      have rq1 := fun ds os => cell_regrown (Aq.c 1 (by omega)) ds os
      have rq2 := fun ds os => cell_regrown (Aq.c 2 (by omega)) ds os
      have rq3 := fun ds os => cell_regrown (Aq.c 3 (by omega)) ds os
      go_wp2_with fail
      refine wp_region_below_tail 9 (by kernel_rfl) (by kernel_rfl) ?_
      simp only [List.take_succ_cons, List.take_zero, List.drop_succ_cons, List.drop_zero]
      repeat (go_big_quiet_step (first | (go_at_call 77; with_reducible exact Calls.regrown_of (rsub _ _ (by first | exact inn_fm _ _ | exact inn_fa _ _ | exact inn_fs _ _ | assumption) (by first | exact inn_fm _ _ | exact inn_fa _ _ | exact inn_fs _ _ | assumption) _)) | (go_at_call 78; with_reducible exact Calls.regrown_of (rmul _ _ (by first | exact inn_fm _ _ | exact inn_fa _ _ | exact inn_fs _ _ | assumption) (by first | exact inn_fm _ _ | exact inn_fa _ _ | exact inn_fs _ _ | assumption) _))))
      refine wpQuiet_nil ?_
      intro w10 hw'
      obtain ⟨⟨dq, osq⟩, hw''⟩ := hw'
      have hb := below_of hw''
      clear hw''
      replace An := Arr.to' An hb
      replace Ax := Arr.to' Ax hb
      replace Aa := Arr.to' Aa hb
      replace Ac := Arr.to' Ac hb
      replace Ab := Arr.to' Ab hb
      replace Ad := Arr.to' Ad hb
      replace Am := Arr.to' Am hb
      replace Al := Arr.to' Al hb
      replace Ay := Arr.to' Ay hb
      replace hB := Bel.call hB hb
      clear hb cb zb rx0 rx1 rx2 rx3 rp0 rp1 rp2 rp3 rq0 rq1 rq2 rq3 Ap Aq
      have cd := Ad.c
      have zd := Ad.z
      have Bn := Arr.st4o (b' := w2.heap.size + 1 + 1 + 1 + 1) An (by have := An.lt; have := Ad.lt; omega) (fm U (fm (fs (fm (fs B D) (fa A C)) (fm (fa B D) (fs A C))) (fs (fm (fs B D) (fa A C)) (fm (fa B D) (fs A C)))))
      have Bx := Arr.st4o (b' := w2.heap.size + 1 + 1 + 1 + 1) Ax (by have := Ax.lt; have := Ad.lt; omega) (fm U (fm (fs (fm (fs B D) (fa A C)) (fm (fa B D) (fs A C))) (fs (fm (fs B D) (fa A C)) (fm (fa B D) (fs A C)))))
      have Ba := Arr.st4o (b' := w2.heap.size + 1 + 1 + 1 + 1) Aa (by have := Aa.lt; have := Ad.lt; omega) (fm U (fm (fs (fm (fs B D) (fa A C)) (fm (fa B D) (fs A C))) (fs (fm (fs B D) (fa A C)) (fm (fa B D) (fs A C)))))
      have Bc := Arr.st4o (b' := w2.heap.size + 1 + 1 + 1 + 1) Ac (by have := Ac.lt; have := Ad.lt; omega) (fm U (fm (fs (fm (fs B D) (fa A C)) (fm (fa B D) (fs A C))) (fs (fm (fs B D) (fa A C)) (fm (fa B D) (fs A C)))))
      have Bb := Arr.st4o (b' := w2.heap.size + 1 + 1 + 1 + 1) Ab (by have := Ab.lt; have := Ad.lt; omega) (fm U (fm (fs (fm (fs B D) (fa A C)) (fm (fa B D) (fs A C))) (fs (fm (fs B D) (fa A C)) (fm (fa B D) (fs A C)))))
      have Bd := Arr.st4 Ad (fm U (fm (fs (fm (fs B D) (fa A C)) (fm (fa B D) (fs A C))) (fs (fm (fs B D) (fa A C)) (fm (fa B D) (fs A C)))))
      have Bm := Arr.st4o (b' := w2.heap.size + 1 + 1 + 1 + 1) Am (by have := Am.lt; have := Ad.lt; omega) (fm U (fm (fs (fm (fs B D) (fa A C)) (fm (fa B D) (fs A C))) (fs (fm (fs B D) (fa A C)) (fm (fa B D) (fs A C)))))
      have Bl := Arr.st4o (b' := w2.heap.size + 1 + 1 + 1 + 1) Al (by have := Al.lt; have := Ad.lt; omega) (fm U (fm (fs (fm (fs B D) (fa A C)) (fm (fa B D) (fs A C))) (fs (fm (fs B D) (fa A C)) (fm (fa B D) (fs A C)))))
      have By := Arr.st4o (b' := w2.heap.size + 1 + 1 + 1 + 1) Ay (by have := Ay.lt; have := Ad.lt; omega) (fm U (fm (fs (fm (fs B D) (fa A C)) (fm (fa B D) (fs A C))) (fs (fm (fs B D) (fa A C)) (fm (fa B D) (fs A C)))))
      have hB' := Bel.st4 hB (b := w2.heap.size + 1 + 1 + 1 + 1) (by have := hB.size; omega) (fm U (fm (fs (fm (fs B D) (fa A C)) (fm (fa B D) (fs A C))) (fs (fm (fs B D) (fa A C)) (fm (fa B D) (fs A C)))))
      clear An Ax Aa Ac Ab Ad Am Al Ay hB
      have An := Bn
      have Ax := Bx
      have Aa := Ba
      have Ac := Bc
      have Ab := Bb
      have Ad := Bd
      have Am := Bm
      have Al := Bl
      have Ay := By
      have hB := hB'
      clear Bn Bx Ba Bc Bb Bd Bm Bl By hB'
      have cm := Am.c
      have cl := Al.c
      go_wp2_with fail
      refine (rmul (fm (fa A C) (fa A C)) (fm (fs A C) (fs A C)) (inn_fm _ _) (inn_fm _ _) _).mono ?_
      rintro e w21 ⟨rfl, hb⟩
      replace An := Arr.to' An hb
      replace Ax := Arr.to' Ax hb
      replace Aa := Arr.to' Aa hb
      replace Ac := Arr.to' Ac hb
      replace Ab := Arr.to' Ab hb
      replace Ad := Arr.to' Ad hb
      replace Am := Arr.to' Am hb
      replace Ay := Arr.to' Ay hb
      replace hB := Bel.call hB hb
      clear hb cd zd cm cl Al
      have ca := Aa.c
      have za := Aa.z
      have Bn := Arr.st4o (b' := w2.heap.size + 1) An (by have := An.lt; have := Aa.lt; omega) (fm (fm (fa A C) (fa A C)) (fm (fs A C) (fs A C)))
      have Bx := Arr.st4o (b' := w2.heap.size + 1) Ax (by have := Ax.lt; have := Aa.lt; omega) (fm (fm (fa A C) (fa A C)) (fm (fs A C) (fs A C)))
      have Ba := Arr.st4 Aa (fm (fm (fa A C) (fa A C)) (fm (fs A C) (fs A C)))
      have Bc := Arr.st4o (b' := w2.heap.size + 1) Ac (by have := Ac.lt; have := Aa.lt; omega) (fm (fm (fa A C) (fa A C)) (fm (fs A C) (fs A C)))
      have Bb := Arr.st4o (b' := w2.heap.size + 1) Ab (by have := Ab.lt; have := Aa.lt; omega) (fm (fm (fa A C) (fa A C)) (fm (fs A C) (fs A C)))
      have Bd := Arr.st4o (b' := w2.heap.size + 1) Ad (by have := Ad.lt; have := Aa.lt; omega) (fm (fm (fa A C) (fa A C)) (fm (fs A C) (fs A C)))
      have Bm := Arr.st4o (b' := w2.heap.size + 1) Am (by have := Am.lt; have := Aa.lt; omega) (fm (fm (fa A C) (fa A C)) (fm (fs A C) (fs A C)))
      have By := Arr.st4o (b' := w2.heap.size + 1) Ay (by have := Ay.lt; have := Aa.lt; omega) (fm (fm (fa A C) (fa A C)) (fm (fs A C) (fs A C)))
      have hB' := Bel.st4 hB (b := w2.heap.size + 1) (by have := hB.size; omega) (fm (fm (fa A C) (fa A C)) (fm (fs A C) (fs A C)))
      clear An Ax Aa Ac Ab Ad Am Ay hB
      have An := Bn
      have Ax := Bx
      have Aa := Ba
      have Ac := Bc
      have Ab := Bb
      have Ad := Bd
      have Am := Bm
      have Ay := By
      have hB := hB'
      clear Bn Bx Ba Bc Bb Bd Bm By hB'
      have rm0 := fun ds os => cell_regrown (Am.c 0 (by omega)) ds os
      have rm1 := fun ds os => cell_regrown (Am.c 1 (by omega)) ds os
      have rm2 := fun ds os => cell_regrown (Am.c 2 (by omega)) ds os
      have rm3 := fun ds os => cell_regrown (Am.c 3 (by omega)) ds os
      have ry0 := fun ds os => cell_regrown (Ay.c 0 (by omega)) ds os
      have ry1 := fun ds os => cell_regrown (Ay.c 1 (by omega)) ds os
      have ry2 := fun ds os => cell_regrown (Ay.c 2 (by omega)) ds os
      have ry3 := fun ds os => cell_regrown (Ay.c 3 (by omega)) ds os
      go_wp2_with fail
      refine wp_region_below_tail 7 (by kernel_rfl) (by kernel_rfl) ?_
      simp only [List.take_succ_cons, List.take_zero, List.drop_succ_cons, List.drop_zero]
      repeat (go_big_quiet_step (first | (go_at_call 76; with_reducible exact Calls.regrown_of (radd _ _ (by first | exact inn_fm _ _ | exact inn_fa _ _ | exact inn_fs _ _ | assumption) (by first | exact inn_fm _ _ | exact inn_fa _ _ | exact inn_fs _ _ | assumption) _)) | (go_at_call 78; with_reducible exact Calls.regrown_of (rmul _ _ (by first | exact inn_fm _ _ | exact inn_fa _ _ | exact inn_fs _ _ | assumption) (by first | exact inn_fm _ _ | exact inn_fa _ _ | exact inn_fs _ _ | assumption) _)) | (go_at_call 78; exact Calls.regrown_of (rmulq _ (inn_fs _ _) _))))
      refine wpQuiet_nil ?_
      intro w12 hw'
      obtain ⟨⟨dq, osq⟩, hw''⟩ := hw'
      have hb := below_of hw''
      clear hw''
      replace An := Arr.to' An hb
      replace Ax := Arr.to' Ax hb
      replace Aa := Arr.to' Aa hb
      replace Ac := Arr.to' Ac hb
      replace Ab := Arr.to' Ab hb
      replace Ad := Arr.to' Ad hb
      replace hB := Bel.call hB hb
      clear hb ca za rm0 rm1 rm2 rm3 ry0 ry1 ry2 ry3 Am Ay
      have ca := Aa.c
      have za := Aa.z
      have cb := Ab.c
      have zb := Ab.z
      have cc := Ac.c
      have zc := Ac.z
      have cd := Ad.c
      have zd := Ad.z
      have Bn := Arr.st4o (b' := w2.heap.size + 1 + 1) An (by have := An.lt; have := Ac.lt; omega) (fm (fs (fm (fa A C) (fa A C)) (fm (fs A C) (fs A C))) (fa (fm (fa A C) (fa A C)) (fm 121665 (fs (fm (fa A C) (fa A C)) (fm (fs A C) (fs A C))))))
      have Bx := Arr.st4o (b' := w2.heap.size + 1 + 1) Ax (by have := Ax.lt; have := Ac.lt; omega) (fm (fs (fm (fa A C) (fa A C)) (fm (fs A C) (fs A C))) (fa (fm (fa A C) (fa A C)) (fm 121665 (fs (fm (fa A C) (fa A C)) (fm (fs A C) (fs A C))))))
      have Ba := Arr.st4o (b' := w2.heap.size + 1 + 1) Aa (by have := Aa.lt; have := Ac.lt; omega) (fm (fs (fm (fa A C) (fa A C)) (fm (fs A C) (fs A C))) (fa (fm (fa A C) (fa A C)) (fm 121665 (fs (fm (fa A C) (fa A C)) (fm (fs A C) (fs A C))))))
      have Bc := Arr.st4 Ac (fm (fs (fm (fa A C) (fa A C)) (fm (fs A C) (fs A C))) (fa (fm (fa A C) (fa A C)) (fm 121665 (fs (fm (fa A C) (fa A C)) (fm (fs A C) (fs A C))))))
      have Bb := Arr.st4o (b' := w2.heap.size + 1 + 1) Ab (by have := Ab.lt; have := Ac.lt; omega) (fm (fs (fm (fa A C) (fa A C)) (fm (fs A C) (fs A C))) (fa (fm (fa A C) (fa A C)) (fm 121665 (fs (fm (fa A C) (fa A C)) (fm (fs A C) (fs A C))))))
      have Bd := Arr.st4o (b' := w2.heap.size + 1 + 1) Ad (by have := Ad.lt; have := Ac.lt; omega) (fm (fs (fm (fa A C) (fa A C)) (fm (fs A C) (fs A C))) (fa (fm (fa A C) (fa A C)) (fm 121665 (fs (fm (fa A C) (fa A C)) (fm (fs A C) (fs A C))))))
      have hB' := Bel.st4 hB (b := w2.heap.size + 1 + 1) (by have := hB.size; omega) (fm (fs (fm (fa A C) (fa A C)) (fm (fs A C) (fs A C))) (fa (fm (fa A C) (fa A C)) (fm 121665 (fs (fm (fa A C) (fa A C)) (fm (fs A C) (fs A C))))))
      clear An Ax Aa Ac Ab Ad hB
      have An := Bn
      have Ax := Bx
      have Aa := Ba
      have Ac := Bc
      have Ab := Bb
      have Ad := Bd
      have hB := hB'
      clear Bn Bx Ba Bc Bb Bd hB'
      go_wp2_with fail
      go_roundw
      case rel => exact ⟨j, _, _, _, _, by omega, by go_num, ⟨hB, ⟨h01, h12⟩, An, Ax, Aa, Ac, Ab, Ad⟩, HN⟩
      case measure => simp [intOf]
    · have HN : Hid (lsts U (upto K 255 (255 - j)) = (sb B D A C, sd B D A C U, sa B D, sc' B D)) := by
        show lsts U (upto K 255 (255 - j)) = _
        rw [show 255 - j = 255 - (j + 1) + 1 by omega, upto_succ, lsts_snoc, HS.out, show 255 - 1 - (255 - (j + 1)) = j by omega]
        have eb : bitB K j = true := by unfold bitB; simp [hbit]
        rw [eb]; rfl
      have CB : ∀ W, Calls Try.prog 72 #[nv K, .int .i64 (j : Int)] W fun e w' => e = .returned (.int .u64 1) ∧ Below W.heap.size W w' := fun W => by
        have := refBit_in K j (j / 64) (j % 64) (by omega) (by omega) (by omega) W
        rw [hbit] at this
        exact this
      clear HS hbit
      have cn := An.c
      go_wp2_with fail
      refine (CB _).mono ?_
      rintro e w11 ⟨rfl, hb⟩
      replace An := Arr.to' An hb
      replace Ax := Arr.to' Ax hb
      replace Aa := Arr.to' Aa hb
      replace Ac := Arr.to' Ac hb
      replace Ab := Arr.to' Ab hb
      replace Ad := Arr.to' Ad hb
      replace hB := Bel.call hB hb
      clear hb cn CB
      have ca := Aa.c
      have za := Aa.z
      have cb := Ab.c
      have zb := Ab.z
      have cc := Ac.c
      have zc := Ac.z
      have cd := Ad.c
      have zd := Ad.z
      have Bn := Arr.st4o (b' := w2.heap.size + 1) An (by have := An.lt; have := Aa.lt; omega) (B)
      have Bx := Arr.st4o (b' := w2.heap.size + 1) Ax (by have := Ax.lt; have := Aa.lt; omega) (B)
      have Ba := Arr.st4 Aa (B)
      have Bc := Arr.st4o (b' := w2.heap.size + 1) Ac (by have := Ac.lt; have := Aa.lt; omega) (B)
      have Bb := Arr.st4o (b' := w2.heap.size + 1) Ab (by have := Ab.lt; have := Aa.lt; omega) (B)
      have Bd := Arr.st4o (b' := w2.heap.size + 1) Ad (by have := Ad.lt; have := Aa.lt; omega) (B)
      have hB' := Bel.st4 hB (b := w2.heap.size + 1) (by have := hB.size; omega) (B)
      clear An Ax Aa Ac Ab Ad hB
      have An := Bn
      have Ax := Bx
      have Aa := Ba
      have Ac := Bc
      have Ab := Bb
      have Ad := Bd
      have hB := hB'
      clear Bn Bx Ba Bc Bb Bd hB'
      have Bn := Arr.st4o (b' := w2.heap.size + 1 + 1 + 1) An (by have := An.lt; have := Ab.lt; omega) (A)
      have Bx := Arr.st4o (b' := w2.heap.size + 1 + 1 + 1) Ax (by have := Ax.lt; have := Ab.lt; omega) (A)
      have Ba := Arr.st4o (b' := w2.heap.size + 1 + 1 + 1) Aa (by have := Aa.lt; have := Ab.lt; omega) (A)
      have Bc := Arr.st4o (b' := w2.heap.size + 1 + 1 + 1) Ac (by have := Ac.lt; have := Ab.lt; omega) (A)
      have Bb := Arr.st4 Ab (A)
      have Bd := Arr.st4o (b' := w2.heap.size + 1 + 1 + 1) Ad (by have := Ad.lt; have := Ab.lt; omega) (A)
      have hB' := Bel.st4 hB (b := w2.heap.size + 1 + 1 + 1) (by have := hB.size; omega) (A)
      clear An Ax Aa Ac Ab Ad hB
      have An := Bn
      have Ax := Bx
      have Aa := Ba
      have Ac := Bc
      have Ab := Bb
      have Ad := Bd
      have hB := hB'
      clear Bn Bx Ba Bc Bb Bd hB'
      have Bn := Arr.st4o (b' := w2.heap.size + 1 + 1) An (by have := An.lt; have := Ac.lt; omega) (D)
      have Bx := Arr.st4o (b' := w2.heap.size + 1 + 1) Ax (by have := Ax.lt; have := Ac.lt; omega) (D)
      have Ba := Arr.st4o (b' := w2.heap.size + 1 + 1) Aa (by have := Aa.lt; have := Ac.lt; omega) (D)
      have Bc := Arr.st4 Ac (D)
      have Bb := Arr.st4o (b' := w2.heap.size + 1 + 1) Ab (by have := Ab.lt; have := Ac.lt; omega) (D)
      have Bd := Arr.st4o (b' := w2.heap.size + 1 + 1) Ad (by have := Ad.lt; have := Ac.lt; omega) (D)
      have hB' := Bel.st4 hB (b := w2.heap.size + 1 + 1) (by have := hB.size; omega) (D)
      clear An Ax Aa Ac Ab Ad hB
      have An := Bn
      have Ax := Bx
      have Aa := Ba
      have Ac := Bc
      have Ab := Bb
      have Ad := Bd
      have hB := hB'
      clear Bn Bx Ba Bc Bb Bd hB'
      have Bn := Arr.st4o (b' := w2.heap.size + 1 + 1 + 1 + 1) An (by have := An.lt; have := Ad.lt; omega) (C)
      have Bx := Arr.st4o (b' := w2.heap.size + 1 + 1 + 1 + 1) Ax (by have := Ax.lt; have := Ad.lt; omega) (C)
      have Ba := Arr.st4o (b' := w2.heap.size + 1 + 1 + 1 + 1) Aa (by have := Aa.lt; have := Ad.lt; omega) (C)
      have Bc := Arr.st4o (b' := w2.heap.size + 1 + 1 + 1 + 1) Ac (by have := Ac.lt; have := Ad.lt; omega) (C)
      have Bb := Arr.st4o (b' := w2.heap.size + 1 + 1 + 1 + 1) Ab (by have := Ab.lt; have := Ad.lt; omega) (C)
      have Bd := Arr.st4 Ad (C)
      have hB' := Bel.st4 hB (b := w2.heap.size + 1 + 1 + 1 + 1) (by have := hB.size; omega) (C)
      clear An Ax Aa Ac Ab Ad hB
      have An := Bn
      have Ax := Bx
      have Aa := Ba
      have Ac := Bc
      have Ab := Bb
      have Ad := Bd
      have hB := hB'
      clear Bn Bx Ba Bc Bb Bd hB'
      go_wp2_with fail
      refine (radd B D iB iD _).mono ?_
      rintro e w12 ⟨rfl, hb⟩
      replace An := Arr.to' An hb
      replace Ax := Arr.to' Ax hb
      replace Aa := Arr.to' Aa hb
      replace Ac := Arr.to' Ac hb
      replace Ab := Arr.to' Ab hb
      replace Ad := Arr.to' Ad hb
      replace hB := Bel.call hB hb
      clear hb ca za cb zb cc zc cd zd
      have ln_1 := An.lt
      have lx_1 := Ax.lt
      have la_1 := Aa.lt
      have lc_1 := Ac.lt
      have lb_1 := Ab.lt
      have ld_1 := Ad.lt
      have lB_1 := hB.size
      replace An := (Arr.al' An (.cells #[.int .u64 (lim (fa B D) 0), .int .u64 (lim (fa B D) 1), .int .u64 (lim (fa B D) 2), .int .u64 (lim (fa B D) 3)] 24))
      replace Ax := (Arr.al' Ax (.cells #[.int .u64 (lim (fa B D) 0), .int .u64 (lim (fa B D) 1), .int .u64 (lim (fa B D) 2), .int .u64 (lim (fa B D) 3)] 24))
      replace Aa := (Arr.al' Aa (.cells #[.int .u64 (lim (fa B D) 0), .int .u64 (lim (fa B D) 1), .int .u64 (lim (fa B D) 2), .int .u64 (lim (fa B D) 3)] 24))
      replace Ac := (Arr.al' Ac (.cells #[.int .u64 (lim (fa B D) 0), .int .u64 (lim (fa B D) 1), .int .u64 (lim (fa B D) 2), .int .u64 (lim (fa B D) 3)] 24))
      replace Ab := (Arr.al' Ab (.cells #[.int .u64 (lim (fa B D) 0), .int .u64 (lim (fa B D) 1), .int .u64 (lim (fa B D) 2), .int .u64 (lim (fa B D) 3)] 24))
      replace Ad := (Arr.al' Ad (.cells #[.int .u64 (lim (fa B D) 0), .int .u64 (lim (fa B D) 1), .int .u64 (lim (fa B D) 2), .int .u64 (lim (fa B D) 3)] 24))
      have As : Arr ((w12.alloc (.cells #[.int .u64 (lim (fa B D) 0), .int .u64 (lim (fa B D) 1), .int .u64 (lim (fa B D) 2), .int .u64 (lim (fa B D) 3)] 24))) (w12.heap.size) 4 (fun j => .int .u64 (lim (fa B D) j)) := by refine Arr.mk4 ?_ ?_ ?_ ?_ ?_ ?_ ?_ ?_ <;> simp [go_sem]
      replace hB := (Bel.al hB (.cells #[.int .u64 (lim (fa B D) 0), .int .u64 (lim (fa B D) 1), .int .u64 (lim (fa B D) 2), .int .u64 (lim (fa B D) 3)] 24))
      have ca := Aa.c
      have cc := Ac.c
      go_wp2_with fail
      refine (rsub B D iB iD _).mono ?_
      rintro e w13 ⟨rfl, hb⟩
      replace An := Arr.to' An hb
      replace Ax := Arr.to' Ax hb
      replace Aa := Arr.to' Aa hb
      replace Ac := Arr.to' Ac hb
      replace Ab := Arr.to' Ab hb
      replace Ad := Arr.to' Ad hb
      replace As := Arr.to' As hb
      replace hB := Bel.call hB hb
      clear hb ca cc
      have ln_2 := An.lt
      have lx_2 := Ax.lt
      have la_2 := Aa.lt
      have lc_2 := Ac.lt
      have lb_2 := Ab.lt
      have ld_2 := Ad.lt
      have ls_2 := As.lt
      have lB_2 := hB.size
      replace An := (Arr.al' An (.cells #[.int .u64 (lim (fs B D) 0), .int .u64 (lim (fs B D) 1), .int .u64 (lim (fs B D) 2), .int .u64 (lim (fs B D) 3)] 24))
      replace Ax := (Arr.al' Ax (.cells #[.int .u64 (lim (fs B D) 0), .int .u64 (lim (fs B D) 1), .int .u64 (lim (fs B D) 2), .int .u64 (lim (fs B D) 3)] 24))
      replace Aa := (Arr.al' Aa (.cells #[.int .u64 (lim (fs B D) 0), .int .u64 (lim (fs B D) 1), .int .u64 (lim (fs B D) 2), .int .u64 (lim (fs B D) 3)] 24))
      replace Ac := (Arr.al' Ac (.cells #[.int .u64 (lim (fs B D) 0), .int .u64 (lim (fs B D) 1), .int .u64 (lim (fs B D) 2), .int .u64 (lim (fs B D) 3)] 24))
      replace Ab := (Arr.al' Ab (.cells #[.int .u64 (lim (fs B D) 0), .int .u64 (lim (fs B D) 1), .int .u64 (lim (fs B D) 2), .int .u64 (lim (fs B D) 3)] 24))
      replace Ad := (Arr.al' Ad (.cells #[.int .u64 (lim (fs B D) 0), .int .u64 (lim (fs B D) 1), .int .u64 (lim (fs B D) 2), .int .u64 (lim (fs B D) 3)] 24))
      replace As := (Arr.al' As (.cells #[.int .u64 (lim (fs B D) 0), .int .u64 (lim (fs B D) 1), .int .u64 (lim (fs B D) 2), .int .u64 (lim (fs B D) 3)] 24))
      have At : Arr ((w13.alloc (.cells #[.int .u64 (lim (fs B D) 0), .int .u64 (lim (fs B D) 1), .int .u64 (lim (fs B D) 2), .int .u64 (lim (fs B D) 3)] 24))) (w13.heap.size) 4 (fun j => .int .u64 (lim (fs B D) j)) := by refine Arr.mk4 ?_ ?_ ?_ ?_ ?_ ?_ ?_ ?_ <;> simp [go_sem]
      replace hB := (Bel.al hB (.cells #[.int .u64 (lim (fs B D) 0), .int .u64 (lim (fs B D) 1), .int .u64 (lim (fs B D) 2), .int .u64 (lim (fs B D) 3)] 24))
      go_wp2_with fail
      apply wp_region_alloc_tail 5 (by kernel_rfl) (by kernel_rfl) (by kernel_rfl) (.cells #[.int .u64 0, .int .u64 0, .int .u64 0, .int .u64 0] 24) _ rfl (fun _ _ => by simp [go_sem])
      · intro W hW
        have rb0 := fun ds os => cell_regrown ((Arr.to' Ab hW).c 0 (by omega)) ds os
        have rb1 := fun ds os => cell_regrown ((Arr.to' Ab hW).c 1 (by omega)) ds os
        have rb2 := fun ds os => cell_regrown ((Arr.to' Ab hW).c 2 (by omega)) ds os
        have rb3 := fun ds os => cell_regrown ((Arr.to' Ab hW).c 3 (by omega)) ds os
        have rd0 := fun ds os => cell_regrown ((Arr.to' Ad hW).c 0 (by omega)) ds os
        have rd1 := fun ds os => cell_regrown ((Arr.to' Ad hW).c 1 (by omega)) ds os
        have rd2 := fun ds os => cell_regrown ((Arr.to' Ad hW).c 2 (by omega)) ds os
        have rd3 := fun ds os => cell_regrown ((Arr.to' Ad hW).c 3 (by omega)) ds os
        have rs0 := fun ds os => cell_regrown ((Arr.to' As hW).c 0 (by omega)) ds os
        have rs1 := fun ds os => cell_regrown ((Arr.to' As hW).c 1 (by omega)) ds os
        have rs2 := fun ds os => cell_regrown ((Arr.to' As hW).c 2 (by omega)) ds os
        have rs3 := fun ds os => cell_regrown ((Arr.to' As hW).c 3 (by omega)) ds os
        simp only [List.take_succ_cons, List.take_zero]
        repeat (go_big_quiet_step (first | (go_at_call 77; with_reducible exact Calls.regrown_of (rsub _ _ (by first | exact inn_fm _ _ | exact inn_fa _ _ | exact inn_fs _ _ | assumption) (by first | exact inn_fm _ _ | exact inn_fa _ _ | exact inn_fs _ _ | assumption) _)) | (go_at_call 78; with_reducible exact Calls.regrown_of (rmul _ _ (by first | exact inn_fm _ _ | exact inn_fa _ _ | exact inn_fs _ _ | assumption) (by first | exact inn_fm _ _ | exact inn_fa _ _ | exact inn_fs _ _ | assumption) _))))
        exact wpQuiet_nil rfl
      intro u4 w14 hb1 hb2
      simp only [List.drop_succ_cons, List.drop_zero, Act.put, List.setIfInBounds_toArray, List.set_cons_succ, List.set_cons_zero]
      have En := Arr.to' An hb1
      have ln_u4 := En.lt
      have Bn := Arr.to' (Arr.al' En _) hb2
      have Ex := Arr.to' Ax hb1
      have lx_u4 := Ex.lt
      have Bx := Arr.to' (Arr.al' Ex _) hb2
      have Ea := Arr.to' Aa hb1
      have la_u4 := Ea.lt
      have Ba := Arr.to' (Arr.al' Ea _) hb2
      have Ec := Arr.to' Ac hb1
      have lc_u4 := Ec.lt
      have Bc := Arr.to' (Arr.al' Ec _) hb2
      have Eb := Arr.to' Ab hb1
      have lb_u4 := Eb.lt
      have Bb := Arr.to' (Arr.al' Eb _) hb2
      have Ed := Arr.to' Ad hb1
      have ld_u4 := Ed.lt
      have Bd := Arr.to' (Arr.al' Ed _) hb2
      have Es := Arr.to' As hb1
      have ls_u4 := Es.lt
      have Bs := Arr.to' (Arr.al' Es _) hb2
      have Et := Arr.to' At hb1
      have lt_u4 := Et.lt
      have Bt := Arr.to' (Arr.al' Et _) hb2
      have Bp := (Arr.mk4 (w := (u4.alloc (.cells #[.int .u64 0, .int .u64 0, .int .u64 0, .int .u64 0] 24))) (f := fun _ => .int .u64 0) (b := u4.heap.size) (by simp [go_sem]) (by simp [go_sem]) (by simp [go_sem]) (by simp [go_sem]) (by simp [go_sem]) (by simp [go_sem]) (by simp [go_sem]) (by simp [go_sem])).below hb2 (by go_size)
      have lB_u4 := (Bel.call hB hb1).size
      have hB' := Bel.call (Bel.al (Bel.call hB hb1) _) hb2
      clear hb1 hb2 En Ex Ea Ec Eb Ed Es Et An Ax Aa Ac Ab Ad As At hB
      have An := Bn
      have Ax := Bx
      have Aa := Ba
      have Ac := Bc
      have Ab := Bb
      have Ad := Bd
      have As := Bs
      have At := Bt
      have Ap := Bp
      have hB := hB'
      clear Bn Bx Ba Bc Bb Bd Bs Bt Bp hB'
      have cp := Ap.c
      have zp := Ap.z
      have Bn := Arr.st4o (b' := u4.heap.size) An (by have := An.lt; have := Ap.lt; omega) (fm (fs A C) (fa B D))
      have Bx := Arr.st4o (b' := u4.heap.size) Ax (by have := Ax.lt; have := Ap.lt; omega) (fm (fs A C) (fa B D))
      have Ba := Arr.st4o (b' := u4.heap.size) Aa (by have := Aa.lt; have := Ap.lt; omega) (fm (fs A C) (fa B D))
      have Bc := Arr.st4o (b' := u4.heap.size) Ac (by have := Ac.lt; have := Ap.lt; omega) (fm (fs A C) (fa B D))
      have Bb := Arr.st4o (b' := u4.heap.size) Ab (by have := Ab.lt; have := Ap.lt; omega) (fm (fs A C) (fa B D))
      have Bd := Arr.st4o (b' := u4.heap.size) Ad (by have := Ad.lt; have := Ap.lt; omega) (fm (fs A C) (fa B D))
      have Bs := Arr.st4o (b' := u4.heap.size) As (by have := As.lt; have := Ap.lt; omega) (fm (fs A C) (fa B D))
      have Bt := Arr.st4o (b' := u4.heap.size) At (by have := At.lt; have := Ap.lt; omega) (fm (fs A C) (fa B D))
      have Bp := Arr.st4 Ap (fm (fs A C) (fa B D))
      have hB' := Bel.st4 hB (b := u4.heap.size) (by have := hB.size; omega) (fm (fs A C) (fa B D))
      clear An Ax Aa Ac Ab Ad As At Ap hB
      have An := Bn
      have Ax := Bx
      have Aa := Ba
      have Ac := Bc
      have Ab := Bb
      have Ad := Bd
      have As := Bs
      have At := Bt
      have Ap := Bp
      have hB := hB'
      clear Bn Bx Ba Bc Bb Bd Bs Bt Bp hB'
      go_wp2_with fail
      apply wp_region_alloc_tail 5 (by kernel_rfl) (by kernel_rfl) (by kernel_rfl) (.cells #[.int .u64 0, .int .u64 0, .int .u64 0, .int .u64 0] 24) _ rfl (fun _ _ => by simp [go_sem])
      · intro W hW
        have rb0 := fun ds os => cell_regrown ((Arr.to' Ab hW).c 0 (by omega)) ds os
        have rb1 := fun ds os => cell_regrown ((Arr.to' Ab hW).c 1 (by omega)) ds os
        have rb2 := fun ds os => cell_regrown ((Arr.to' Ab hW).c 2 (by omega)) ds os
        have rb3 := fun ds os => cell_regrown ((Arr.to' Ab hW).c 3 (by omega)) ds os
        have rd0 := fun ds os => cell_regrown ((Arr.to' Ad hW).c 0 (by omega)) ds os
        have rd1 := fun ds os => cell_regrown ((Arr.to' Ad hW).c 1 (by omega)) ds os
        have rd2 := fun ds os => cell_regrown ((Arr.to' Ad hW).c 2 (by omega)) ds os
        have rd3 := fun ds os => cell_regrown ((Arr.to' Ad hW).c 3 (by omega)) ds os
        have rt0 := fun ds os => cell_regrown ((Arr.to' At hW).c 0 (by omega)) ds os
        have rt1 := fun ds os => cell_regrown ((Arr.to' At hW).c 1 (by omega)) ds os
        have rt2 := fun ds os => cell_regrown ((Arr.to' At hW).c 2 (by omega)) ds os
        have rt3 := fun ds os => cell_regrown ((Arr.to' At hW).c 3 (by omega)) ds os
        simp only [List.take_succ_cons, List.take_zero]
        repeat (go_big_quiet_step (first | (go_at_call 76; with_reducible exact Calls.regrown_of (radd _ _ (by first | exact inn_fm _ _ | exact inn_fa _ _ | exact inn_fs _ _ | assumption) (by first | exact inn_fm _ _ | exact inn_fa _ _ | exact inn_fs _ _ | assumption) _)) | (go_at_call 78; with_reducible exact Calls.regrown_of (rmul _ _ (by first | exact inn_fm _ _ | exact inn_fa _ _ | exact inn_fs _ _ | assumption) (by first | exact inn_fm _ _ | exact inn_fa _ _ | exact inn_fs _ _ | assumption) _))))
        exact wpQuiet_nil rfl
      intro u5 w15 hb1 hb2
      simp only [List.drop_succ_cons, List.drop_zero, Act.put, List.setIfInBounds_toArray, List.set_cons_succ, List.set_cons_zero]
      have En := Arr.to' An hb1
      have ln_u5 := En.lt
      have Bn := Arr.to' (Arr.al' En _) hb2
      have Ex := Arr.to' Ax hb1
      have lx_u5 := Ex.lt
      have Bx := Arr.to' (Arr.al' Ex _) hb2
      have Ea := Arr.to' Aa hb1
      have la_u5 := Ea.lt
      have Ba := Arr.to' (Arr.al' Ea _) hb2
      have Ec := Arr.to' Ac hb1
      have lc_u5 := Ec.lt
      have Bc := Arr.to' (Arr.al' Ec _) hb2
      have Eb := Arr.to' Ab hb1
      have lb_u5 := Eb.lt
      have Bb := Arr.to' (Arr.al' Eb _) hb2
      have Ed := Arr.to' Ad hb1
      have ld_u5 := Ed.lt
      have Bd := Arr.to' (Arr.al' Ed _) hb2
      have Es := Arr.to' As hb1
      have ls_u5 := Es.lt
      have Bs := Arr.to' (Arr.al' Es _) hb2
      have Et := Arr.to' At hb1
      have lt_u5 := Et.lt
      have Bt := Arr.to' (Arr.al' Et _) hb2
      have Ep := Arr.to' Ap hb1
      have lp_u5 := Ep.lt
      have Bp := Arr.to' (Arr.al' Ep _) hb2
      have Bq := (Arr.mk4 (w := (u5.alloc (.cells #[.int .u64 0, .int .u64 0, .int .u64 0, .int .u64 0] 24))) (f := fun _ => .int .u64 0) (b := u5.heap.size) (by simp [go_sem]) (by simp [go_sem]) (by simp [go_sem]) (by simp [go_sem]) (by simp [go_sem]) (by simp [go_sem]) (by simp [go_sem]) (by simp [go_sem])).below hb2 (by go_size)
      have lB_u5 := (Bel.call hB hb1).size
      have hB' := Bel.call (Bel.al (Bel.call hB hb1) _) hb2
      clear hb1 hb2 En Ex Ea Ec Eb Ed Es Et Ep An Ax Aa Ac Ab Ad As At Ap hB
      have An := Bn
      have Ax := Bx
      have Aa := Ba
      have Ac := Bc
      have Ab := Bb
      have Ad := Bd
      have As := Bs
      have At := Bt
      have Ap := Bp
      have Aq := Bq
      have hB := hB'
      clear Bn Bx Ba Bc Bb Bd Bs Bt Bp Bq hB'
      have cq := Aq.c
      have zq := Aq.z
      have Bn := Arr.st4o (b' := u5.heap.size) An (by have := An.lt; have := Aq.lt; omega) (fm (fa A C) (fs B D))
      have Bx := Arr.st4o (b' := u5.heap.size) Ax (by have := Ax.lt; have := Aq.lt; omega) (fm (fa A C) (fs B D))
      have Ba := Arr.st4o (b' := u5.heap.size) Aa (by have := Aa.lt; have := Aq.lt; omega) (fm (fa A C) (fs B D))
      have Bc := Arr.st4o (b' := u5.heap.size) Ac (by have := Ac.lt; have := Aq.lt; omega) (fm (fa A C) (fs B D))
      have Bb := Arr.st4o (b' := u5.heap.size) Ab (by have := Ab.lt; have := Aq.lt; omega) (fm (fa A C) (fs B D))
      have Bd := Arr.st4o (b' := u5.heap.size) Ad (by have := Ad.lt; have := Aq.lt; omega) (fm (fa A C) (fs B D))
      have Bs := Arr.st4o (b' := u5.heap.size) As (by have := As.lt; have := Aq.lt; omega) (fm (fa A C) (fs B D))
      have Bt := Arr.st4o (b' := u5.heap.size) At (by have := At.lt; have := Aq.lt; omega) (fm (fa A C) (fs B D))
      have Bp := Arr.st4o (b' := u5.heap.size) Ap (by have := Ap.lt; have := Aq.lt; omega) (fm (fa A C) (fs B D))
      have Bq := Arr.st4 Aq (fm (fa A C) (fs B D))
      have hB' := Bel.st4 hB (b := u5.heap.size) (by have := hB.size; omega) (fm (fa A C) (fs B D))
      clear An Ax Aa Ac Ab Ad As At Ap Aq hB
      have An := Bn
      have Ax := Bx
      have Aa := Ba
      have Ac := Bc
      have Ab := Bb
      have Ad := Bd
      have As := Bs
      have At := Bt
      have Ap := Bp
      have Aq := Bq
      have hB := hB'
      clear Bn Bx Ba Bc Bb Bd Bs Bt Bp Bq hB'
      have cs := As.c
      go_wp2_with fail
      refine (rmul (fa B D) (fa B D) (inn_fa _ _) (inn_fa _ _) _).mono ?_
      rintro e w16 ⟨rfl, hb⟩
      replace An := Arr.to' An hb
      replace Ax := Arr.to' Ax hb
      replace Aa := Arr.to' Aa hb
      replace Ac := Arr.to' Ac hb
      replace Ab := Arr.to' Ab hb
      replace Ad := Arr.to' Ad hb
      replace At := Arr.to' At hb
      replace Ap := Arr.to' Ap hb
      replace Aq := Arr.to' Aq hb
      replace hB := Bel.call hB hb
      clear hb cq zq cs As
      have ln_3 := An.lt
      have lx_3 := Ax.lt
      have la_3 := Aa.lt
      have lc_3 := Ac.lt
      have lb_3 := Ab.lt
      have ld_3 := Ad.lt
      have lt_3 := At.lt
      have lp_3 := Ap.lt
      have lq_3 := Aq.lt
      have lB_3 := hB.size
      replace An := (Arr.al' An (.cells #[.int .u64 (lim (fm (fa B D) (fa B D)) 0), .int .u64 (lim (fm (fa B D) (fa B D)) 1), .int .u64 (lim (fm (fa B D) (fa B D)) 2), .int .u64 (lim (fm (fa B D) (fa B D)) 3)] 24))
      replace Ax := (Arr.al' Ax (.cells #[.int .u64 (lim (fm (fa B D) (fa B D)) 0), .int .u64 (lim (fm (fa B D) (fa B D)) 1), .int .u64 (lim (fm (fa B D) (fa B D)) 2), .int .u64 (lim (fm (fa B D) (fa B D)) 3)] 24))
      replace Aa := (Arr.al' Aa (.cells #[.int .u64 (lim (fm (fa B D) (fa B D)) 0), .int .u64 (lim (fm (fa B D) (fa B D)) 1), .int .u64 (lim (fm (fa B D) (fa B D)) 2), .int .u64 (lim (fm (fa B D) (fa B D)) 3)] 24))
      replace Ac := (Arr.al' Ac (.cells #[.int .u64 (lim (fm (fa B D) (fa B D)) 0), .int .u64 (lim (fm (fa B D) (fa B D)) 1), .int .u64 (lim (fm (fa B D) (fa B D)) 2), .int .u64 (lim (fm (fa B D) (fa B D)) 3)] 24))
      replace Ab := (Arr.al' Ab (.cells #[.int .u64 (lim (fm (fa B D) (fa B D)) 0), .int .u64 (lim (fm (fa B D) (fa B D)) 1), .int .u64 (lim (fm (fa B D) (fa B D)) 2), .int .u64 (lim (fm (fa B D) (fa B D)) 3)] 24))
      replace Ad := (Arr.al' Ad (.cells #[.int .u64 (lim (fm (fa B D) (fa B D)) 0), .int .u64 (lim (fm (fa B D) (fa B D)) 1), .int .u64 (lim (fm (fa B D) (fa B D)) 2), .int .u64 (lim (fm (fa B D) (fa B D)) 3)] 24))
      replace At := (Arr.al' At (.cells #[.int .u64 (lim (fm (fa B D) (fa B D)) 0), .int .u64 (lim (fm (fa B D) (fa B D)) 1), .int .u64 (lim (fm (fa B D) (fa B D)) 2), .int .u64 (lim (fm (fa B D) (fa B D)) 3)] 24))
      replace Ap := (Arr.al' Ap (.cells #[.int .u64 (lim (fm (fa B D) (fa B D)) 0), .int .u64 (lim (fm (fa B D) (fa B D)) 1), .int .u64 (lim (fm (fa B D) (fa B D)) 2), .int .u64 (lim (fm (fa B D) (fa B D)) 3)] 24))
      replace Aq := (Arr.al' Aq (.cells #[.int .u64 (lim (fm (fa B D) (fa B D)) 0), .int .u64 (lim (fm (fa B D) (fa B D)) 1), .int .u64 (lim (fm (fa B D) (fa B D)) 2), .int .u64 (lim (fm (fa B D) (fa B D)) 3)] 24))
      have Am : Arr ((w16.alloc (.cells #[.int .u64 (lim (fm (fa B D) (fa B D)) 0), .int .u64 (lim (fm (fa B D) (fa B D)) 1), .int .u64 (lim (fm (fa B D) (fa B D)) 2), .int .u64 (lim (fm (fa B D) (fa B D)) 3)] 24))) (w16.heap.size) 4 (fun j => .int .u64 (lim (fm (fa B D) (fa B D)) j)) := by refine Arr.mk4 ?_ ?_ ?_ ?_ ?_ ?_ ?_ ?_ <;> simp [go_sem]
      replace hB := (Bel.al hB (.cells #[.int .u64 (lim (fm (fa B D) (fa B D)) 0), .int .u64 (lim (fm (fa B D) (fa B D)) 1), .int .u64 (lim (fm (fa B D) (fa B D)) 2), .int .u64 (lim (fm (fa B D) (fa B D)) 3)] 24))
      have ct := At.c
      go_wp2_with fail
      refine (rmul (fs B D) (fs B D) (inn_fs _ _) (inn_fs _ _) _).mono ?_
      rintro e w17 ⟨rfl, hb⟩
      replace An := Arr.to' An hb
      replace Ax := Arr.to' Ax hb
      replace Aa := Arr.to' Aa hb
      replace Ac := Arr.to' Ac hb
      replace Ab := Arr.to' Ab hb
      replace Ad := Arr.to' Ad hb
      replace Ap := Arr.to' Ap hb
      replace Aq := Arr.to' Aq hb
      replace Am := Arr.to' Am hb
      replace hB := Bel.call hB hb
      clear hb ct At
      have ln_4 := An.lt
      have lx_4 := Ax.lt
      have la_4 := Aa.lt
      have lc_4 := Ac.lt
      have lb_4 := Ab.lt
      have ld_4 := Ad.lt
      have lp_4 := Ap.lt
      have lq_4 := Aq.lt
      have lm_4 := Am.lt
      have lB_4 := hB.size
      replace An := (Arr.al' An (.cells #[.int .u64 (lim (fm (fs B D) (fs B D)) 0), .int .u64 (lim (fm (fs B D) (fs B D)) 1), .int .u64 (lim (fm (fs B D) (fs B D)) 2), .int .u64 (lim (fm (fs B D) (fs B D)) 3)] 24))
      replace Ax := (Arr.al' Ax (.cells #[.int .u64 (lim (fm (fs B D) (fs B D)) 0), .int .u64 (lim (fm (fs B D) (fs B D)) 1), .int .u64 (lim (fm (fs B D) (fs B D)) 2), .int .u64 (lim (fm (fs B D) (fs B D)) 3)] 24))
      replace Aa := (Arr.al' Aa (.cells #[.int .u64 (lim (fm (fs B D) (fs B D)) 0), .int .u64 (lim (fm (fs B D) (fs B D)) 1), .int .u64 (lim (fm (fs B D) (fs B D)) 2), .int .u64 (lim (fm (fs B D) (fs B D)) 3)] 24))
      replace Ac := (Arr.al' Ac (.cells #[.int .u64 (lim (fm (fs B D) (fs B D)) 0), .int .u64 (lim (fm (fs B D) (fs B D)) 1), .int .u64 (lim (fm (fs B D) (fs B D)) 2), .int .u64 (lim (fm (fs B D) (fs B D)) 3)] 24))
      replace Ab := (Arr.al' Ab (.cells #[.int .u64 (lim (fm (fs B D) (fs B D)) 0), .int .u64 (lim (fm (fs B D) (fs B D)) 1), .int .u64 (lim (fm (fs B D) (fs B D)) 2), .int .u64 (lim (fm (fs B D) (fs B D)) 3)] 24))
      replace Ad := (Arr.al' Ad (.cells #[.int .u64 (lim (fm (fs B D) (fs B D)) 0), .int .u64 (lim (fm (fs B D) (fs B D)) 1), .int .u64 (lim (fm (fs B D) (fs B D)) 2), .int .u64 (lim (fm (fs B D) (fs B D)) 3)] 24))
      replace Ap := (Arr.al' Ap (.cells #[.int .u64 (lim (fm (fs B D) (fs B D)) 0), .int .u64 (lim (fm (fs B D) (fs B D)) 1), .int .u64 (lim (fm (fs B D) (fs B D)) 2), .int .u64 (lim (fm (fs B D) (fs B D)) 3)] 24))
      replace Aq := (Arr.al' Aq (.cells #[.int .u64 (lim (fm (fs B D) (fs B D)) 0), .int .u64 (lim (fm (fs B D) (fs B D)) 1), .int .u64 (lim (fm (fs B D) (fs B D)) 2), .int .u64 (lim (fm (fs B D) (fs B D)) 3)] 24))
      replace Am := (Arr.al' Am (.cells #[.int .u64 (lim (fm (fs B D) (fs B D)) 0), .int .u64 (lim (fm (fs B D) (fs B D)) 1), .int .u64 (lim (fm (fs B D) (fs B D)) 2), .int .u64 (lim (fm (fs B D) (fs B D)) 3)] 24))
      have Al : Arr ((w17.alloc (.cells #[.int .u64 (lim (fm (fs B D) (fs B D)) 0), .int .u64 (lim (fm (fs B D) (fs B D)) 1), .int .u64 (lim (fm (fs B D) (fs B D)) 2), .int .u64 (lim (fm (fs B D) (fs B D)) 3)] 24))) (w17.heap.size) 4 (fun j => .int .u64 (lim (fm (fs B D) (fs B D)) j)) := by refine Arr.mk4 ?_ ?_ ?_ ?_ ?_ ?_ ?_ ?_ <;> simp [go_sem]
      replace hB := (Bel.al hB (.cells #[.int .u64 (lim (fm (fs B D) (fs B D)) 0), .int .u64 (lim (fm (fs B D) (fs B D)) 1), .int .u64 (lim (fm (fs B D) (fs B D)) 2), .int .u64 (lim (fm (fs B D) (fs B D)) 3)] 24))
      have cm := Am.c
      go_wp2_with fail
      refine (rsub (fm (fa B D) (fa B D)) (fm (fs B D) (fs B D)) (inn_fm _ _) (inn_fm _ _) _).mono ?_
      rintro e w18 ⟨rfl, hb⟩
      replace An := Arr.to' An hb
      replace Ax := Arr.to' Ax hb
      replace Aa := Arr.to' Aa hb
      replace Ac := Arr.to' Ac hb
      replace Ab := Arr.to' Ab hb
      replace Ad := Arr.to' Ad hb
      replace Ap := Arr.to' Ap hb
      replace Aq := Arr.to' Aq hb
      replace Am := Arr.to' Am hb
      replace Al := Arr.to' Al hb
      replace hB := Bel.call hB hb
      clear hb cm
      have ln_5 := An.lt
      have lx_5 := Ax.lt
      have la_5 := Aa.lt
      have lc_5 := Ac.lt
      have lb_5 := Ab.lt
      have ld_5 := Ad.lt
      have lp_5 := Ap.lt
      have lq_5 := Aq.lt
      have lm_5 := Am.lt
      have ll_5 := Al.lt
      have lB_5 := hB.size
      replace An := (Arr.al' An (.cells #[.int .u64 (lim (fs (fm (fa B D) (fa B D)) (fm (fs B D) (fs B D))) 0), .int .u64 (lim (fs (fm (fa B D) (fa B D)) (fm (fs B D) (fs B D))) 1), .int .u64 (lim (fs (fm (fa B D) (fa B D)) (fm (fs B D) (fs B D))) 2), .int .u64 (lim (fs (fm (fa B D) (fa B D)) (fm (fs B D) (fs B D))) 3)] 24))
      replace Ax := (Arr.al' Ax (.cells #[.int .u64 (lim (fs (fm (fa B D) (fa B D)) (fm (fs B D) (fs B D))) 0), .int .u64 (lim (fs (fm (fa B D) (fa B D)) (fm (fs B D) (fs B D))) 1), .int .u64 (lim (fs (fm (fa B D) (fa B D)) (fm (fs B D) (fs B D))) 2), .int .u64 (lim (fs (fm (fa B D) (fa B D)) (fm (fs B D) (fs B D))) 3)] 24))
      replace Aa := (Arr.al' Aa (.cells #[.int .u64 (lim (fs (fm (fa B D) (fa B D)) (fm (fs B D) (fs B D))) 0), .int .u64 (lim (fs (fm (fa B D) (fa B D)) (fm (fs B D) (fs B D))) 1), .int .u64 (lim (fs (fm (fa B D) (fa B D)) (fm (fs B D) (fs B D))) 2), .int .u64 (lim (fs (fm (fa B D) (fa B D)) (fm (fs B D) (fs B D))) 3)] 24))
      replace Ac := (Arr.al' Ac (.cells #[.int .u64 (lim (fs (fm (fa B D) (fa B D)) (fm (fs B D) (fs B D))) 0), .int .u64 (lim (fs (fm (fa B D) (fa B D)) (fm (fs B D) (fs B D))) 1), .int .u64 (lim (fs (fm (fa B D) (fa B D)) (fm (fs B D) (fs B D))) 2), .int .u64 (lim (fs (fm (fa B D) (fa B D)) (fm (fs B D) (fs B D))) 3)] 24))
      replace Ab := (Arr.al' Ab (.cells #[.int .u64 (lim (fs (fm (fa B D) (fa B D)) (fm (fs B D) (fs B D))) 0), .int .u64 (lim (fs (fm (fa B D) (fa B D)) (fm (fs B D) (fs B D))) 1), .int .u64 (lim (fs (fm (fa B D) (fa B D)) (fm (fs B D) (fs B D))) 2), .int .u64 (lim (fs (fm (fa B D) (fa B D)) (fm (fs B D) (fs B D))) 3)] 24))
      replace Ad := (Arr.al' Ad (.cells #[.int .u64 (lim (fs (fm (fa B D) (fa B D)) (fm (fs B D) (fs B D))) 0), .int .u64 (lim (fs (fm (fa B D) (fa B D)) (fm (fs B D) (fs B D))) 1), .int .u64 (lim (fs (fm (fa B D) (fa B D)) (fm (fs B D) (fs B D))) 2), .int .u64 (lim (fs (fm (fa B D) (fa B D)) (fm (fs B D) (fs B D))) 3)] 24))
      replace Ap := (Arr.al' Ap (.cells #[.int .u64 (lim (fs (fm (fa B D) (fa B D)) (fm (fs B D) (fs B D))) 0), .int .u64 (lim (fs (fm (fa B D) (fa B D)) (fm (fs B D) (fs B D))) 1), .int .u64 (lim (fs (fm (fa B D) (fa B D)) (fm (fs B D) (fs B D))) 2), .int .u64 (lim (fs (fm (fa B D) (fa B D)) (fm (fs B D) (fs B D))) 3)] 24))
      replace Aq := (Arr.al' Aq (.cells #[.int .u64 (lim (fs (fm (fa B D) (fa B D)) (fm (fs B D) (fs B D))) 0), .int .u64 (lim (fs (fm (fa B D) (fa B D)) (fm (fs B D) (fs B D))) 1), .int .u64 (lim (fs (fm (fa B D) (fa B D)) (fm (fs B D) (fs B D))) 2), .int .u64 (lim (fs (fm (fa B D) (fa B D)) (fm (fs B D) (fs B D))) 3)] 24))
      replace Am := (Arr.al' Am (.cells #[.int .u64 (lim (fs (fm (fa B D) (fa B D)) (fm (fs B D) (fs B D))) 0), .int .u64 (lim (fs (fm (fa B D) (fa B D)) (fm (fs B D) (fs B D))) 1), .int .u64 (lim (fs (fm (fa B D) (fa B D)) (fm (fs B D) (fs B D))) 2), .int .u64 (lim (fs (fm (fa B D) (fa B D)) (fm (fs B D) (fs B D))) 3)] 24))
      replace Al := (Arr.al' Al (.cells #[.int .u64 (lim (fs (fm (fa B D) (fa B D)) (fm (fs B D) (fs B D))) 0), .int .u64 (lim (fs (fm (fa B D) (fa B D)) (fm (fs B D) (fs B D))) 1), .int .u64 (lim (fs (fm (fa B D) (fa B D)) (fm (fs B D) (fs B D))) 2), .int .u64 (lim (fs (fm (fa B D) (fa B D)) (fm (fs B D) (fs B D))) 3)] 24))
      have Ay : Arr ((w18.alloc (.cells #[.int .u64 (lim (fs (fm (fa B D) (fa B D)) (fm (fs B D) (fs B D))) 0), .int .u64 (lim (fs (fm (fa B D) (fa B D)) (fm (fs B D) (fs B D))) 1), .int .u64 (lim (fs (fm (fa B D) (fa B D)) (fm (fs B D) (fs B D))) 2), .int .u64 (lim (fs (fm (fa B D) (fa B D)) (fm (fs B D) (fs B D))) 3)] 24))) (w18.heap.size) 4 (fun j => .int .u64 (lim (fs (fm (fa B D) (fa B D)) (fm (fs B D) (fs B D))) j)) := by refine Arr.mk4 ?_ ?_ ?_ ?_ ?_ ?_ ?_ ?_ <;> simp [go_sem]
      replace hB := (Bel.al hB (.cells #[.int .u64 (lim (fs (fm (fa B D) (fa B D)) (fm (fs B D) (fs B D))) 0), .int .u64 (lim (fs (fm (fa B D) (fa B D)) (fm (fs B D) (fs B D))) 1), .int .u64 (lim (fs (fm (fa B D) (fa B D)) (fm (fs B D) (fs B D))) 2), .int .u64 (lim (fs (fm (fa B D) (fa B D)) (fm (fs B D) (fs B D))) 3)] 24))
      have rp0 := fun ds os => cell_regrown (Ap.c 0 (by omega)) ds os
      have rp1 := fun ds os => cell_regrown (Ap.c 1 (by omega)) ds os
      have rp2 := fun ds os => cell_regrown (Ap.c 2 (by omega)) ds os
      have rp3 := fun ds os => cell_regrown (Ap.c 3 (by omega)) ds os
      have rq0 := fun ds os => cell_regrown (Aq.c 0 (by omega)) ds os
      have rq1 := fun ds os => cell_regrown (Aq.c 1 (by omega)) ds os
      have rq2 := fun ds os => cell_regrown (Aq.c 2 (by omega)) ds os
      have rq3 := fun ds os => cell_regrown (Aq.c 3 (by omega)) ds os
      go_wp2_with fail
      refine wp_region_below_tail 7 (by kernel_rfl) (by kernel_rfl) ?_
      simp only [List.take_succ_cons, List.take_zero, List.drop_succ_cons, List.drop_zero]
      repeat (go_big_quiet_step (first | (go_at_call 76; with_reducible exact Calls.regrown_of (radd _ _ (by first | exact inn_fm _ _ | exact inn_fa _ _ | exact inn_fs _ _ | assumption) (by first | exact inn_fm _ _ | exact inn_fa _ _ | exact inn_fs _ _ | assumption) _)) | (go_at_call 78; with_reducible exact Calls.regrown_of (rmul _ _ (by first | exact inn_fm _ _ | exact inn_fa _ _ | exact inn_fs _ _ | assumption) (by first | exact inn_fm _ _ | exact inn_fa _ _ | exact inn_fs _ _ | assumption) _))))
      refine wpQuiet_nil ?_
      intro w9 hw'
      obtain ⟨⟨dq, osq⟩, hw''⟩ := hw'
      have hb := below_of hw''
      clear hw''
      replace An := Arr.to' An hb
      replace Ax := Arr.to' Ax hb
      replace Aa := Arr.to' Aa hb
      replace Ac := Arr.to' Ac hb
      replace Ab := Arr.to' Ab hb
      replace Ad := Arr.to' Ad hb
      replace Ap := Arr.to' Ap hb
      replace Aq := Arr.to' Aq hb
      replace Am := Arr.to' Am hb
      replace Al := Arr.to' Al hb
      replace Ay := Arr.to' Ay hb
      replace hB := Bel.call hB hb
      clear hb rp0 rp1 rp2 rp3 rq0 rq1 rq2 rq3
      have cb := Ab.c
      have zb := Ab.z
      have Bn := Arr.st4o (b' := w2.heap.size + 1 + 1 + 1) An (by have := An.lt; have := Ab.lt; omega) (fm (fa (fm (fs A C) (fa B D)) (fm (fa A C) (fs B D))) (fa (fm (fs A C) (fa B D)) (fm (fa A C) (fs B D))))
      have Bx := Arr.st4o (b' := w2.heap.size + 1 + 1 + 1) Ax (by have := Ax.lt; have := Ab.lt; omega) (fm (fa (fm (fs A C) (fa B D)) (fm (fa A C) (fs B D))) (fa (fm (fs A C) (fa B D)) (fm (fa A C) (fs B D))))
      have Ba := Arr.st4o (b' := w2.heap.size + 1 + 1 + 1) Aa (by have := Aa.lt; have := Ab.lt; omega) (fm (fa (fm (fs A C) (fa B D)) (fm (fa A C) (fs B D))) (fa (fm (fs A C) (fa B D)) (fm (fa A C) (fs B D))))
      have Bc := Arr.st4o (b' := w2.heap.size + 1 + 1 + 1) Ac (by have := Ac.lt; have := Ab.lt; omega) (fm (fa (fm (fs A C) (fa B D)) (fm (fa A C) (fs B D))) (fa (fm (fs A C) (fa B D)) (fm (fa A C) (fs B D))))
      have Bb := Arr.st4 Ab (fm (fa (fm (fs A C) (fa B D)) (fm (fa A C) (fs B D))) (fa (fm (fs A C) (fa B D)) (fm (fa A C) (fs B D))))
      have Bd := Arr.st4o (b' := w2.heap.size + 1 + 1 + 1) Ad (by have := Ad.lt; have := Ab.lt; omega) (fm (fa (fm (fs A C) (fa B D)) (fm (fa A C) (fs B D))) (fa (fm (fs A C) (fa B D)) (fm (fa A C) (fs B D))))
      have Bp := Arr.st4o (b' := w2.heap.size + 1 + 1 + 1) Ap (by have := Ap.lt; have := Ab.lt; omega) (fm (fa (fm (fs A C) (fa B D)) (fm (fa A C) (fs B D))) (fa (fm (fs A C) (fa B D)) (fm (fa A C) (fs B D))))
      have Bq := Arr.st4o (b' := w2.heap.size + 1 + 1 + 1) Aq (by have := Aq.lt; have := Ab.lt; omega) (fm (fa (fm (fs A C) (fa B D)) (fm (fa A C) (fs B D))) (fa (fm (fs A C) (fa B D)) (fm (fa A C) (fs B D))))
      have Bm := Arr.st4o (b' := w2.heap.size + 1 + 1 + 1) Am (by have := Am.lt; have := Ab.lt; omega) (fm (fa (fm (fs A C) (fa B D)) (fm (fa A C) (fs B D))) (fa (fm (fs A C) (fa B D)) (fm (fa A C) (fs B D))))
      have Bl := Arr.st4o (b' := w2.heap.size + 1 + 1 + 1) Al (by have := Al.lt; have := Ab.lt; omega) (fm (fa (fm (fs A C) (fa B D)) (fm (fa A C) (fs B D))) (fa (fm (fs A C) (fa B D)) (fm (fa A C) (fs B D))))
      have By := Arr.st4o (b' := w2.heap.size + 1 + 1 + 1) Ay (by have := Ay.lt; have := Ab.lt; omega) (fm (fa (fm (fs A C) (fa B D)) (fm (fa A C) (fs B D))) (fa (fm (fs A C) (fa B D)) (fm (fa A C) (fs B D))))
      have hB' := Bel.st4 hB (b := w2.heap.size + 1 + 1 + 1) (by have := hB.size; omega) (fm (fa (fm (fs A C) (fa B D)) (fm (fa A C) (fs B D))) (fa (fm (fs A C) (fa B D)) (fm (fa A C) (fs B D))))
      clear An Ax Aa Ac Ab Ad Ap Aq Am Al Ay hB
      have An := Bn
      have Ax := Bx
      have Aa := Ba
      have Ac := Bc
      have Ab := Bb
      have Ad := Bd
      have Ap := Bp
      have Aq := Bq
      have Am := Bm
      have Al := Bl
      have Ay := By
      have hB := hB'
      clear Bn Bx Ba Bc Bb Bd Bp Bq Bm Bl By hB'
      have rx0 := fun ds os => cell_regrown (Ax.c 0 (by omega)) ds os
      have rx1 := fun ds os => cell_regrown (Ax.c 1 (by omega)) ds os
      have rx2 := fun ds os => cell_regrown (Ax.c 2 (by omega)) ds os
      have rx3 := fun ds os => cell_regrown (Ax.c 3 (by omega)) ds os
      have rp0 := fun ds os => cell_regrown (Ap.c 0 (by omega)) ds os
      have rp1 := fun ds os => cell_regrown (Ap.c 1 (by omega)) ds os
      have rp2 := fun ds os => cell_regrown (Ap.c 2 (by omega)) ds os
      have rp3 := fun ds os => cell_regrown (Ap.c 3 (by omega)) ds os
      have rq0 := fun ds os => cell_regrown (Aq.c 0 (by omega)) ds os
      have rq1 := fun ds os => cell_regrown (Aq.c 1 (by omega)) ds os
      have rq2 := fun ds os => cell_regrown (Aq.c 2 (by omega)) ds os
      have rq3 := fun ds os => cell_regrown (Aq.c 3 (by omega)) ds os
      go_wp2_with fail
      refine wp_region_below_tail 9 (by kernel_rfl) (by kernel_rfl) ?_
      simp only [List.take_succ_cons, List.take_zero, List.drop_succ_cons, List.drop_zero]
      repeat (go_big_quiet_step (first | (go_at_call 77; with_reducible exact Calls.regrown_of (rsub _ _ (by first | exact inn_fm _ _ | exact inn_fa _ _ | exact inn_fs _ _ | assumption) (by first | exact inn_fm _ _ | exact inn_fa _ _ | exact inn_fs _ _ | assumption) _)) | (go_at_call 78; with_reducible exact Calls.regrown_of (rmul _ _ (by first | exact inn_fm _ _ | exact inn_fa _ _ | exact inn_fs _ _ | assumption) (by first | exact inn_fm _ _ | exact inn_fa _ _ | exact inn_fs _ _ | assumption) _))))
      refine wpQuiet_nil ?_
      intro w10 hw'
      obtain ⟨⟨dq, osq⟩, hw''⟩ := hw'
      have hb := below_of hw''
      clear hw''
      replace An := Arr.to' An hb
      replace Ax := Arr.to' Ax hb
      replace Aa := Arr.to' Aa hb
      replace Ac := Arr.to' Ac hb
      replace Ab := Arr.to' Ab hb
      replace Ad := Arr.to' Ad hb
      replace Am := Arr.to' Am hb
      replace Al := Arr.to' Al hb
      replace Ay := Arr.to' Ay hb
      replace hB := Bel.call hB hb
      clear hb cb zb rx0 rx1 rx2 rx3 rp0 rp1 rp2 rp3 rq0 rq1 rq2 rq3 Ap Aq
      have cd := Ad.c
      have zd := Ad.z
      have Bn := Arr.st4o (b' := w2.heap.size + 1 + 1 + 1 + 1) An (by have := An.lt; have := Ad.lt; omega) (fm U (fm (fs (fm (fs A C) (fa B D)) (fm (fa A C) (fs B D))) (fs (fm (fs A C) (fa B D)) (fm (fa A C) (fs B D)))))
      have Bx := Arr.st4o (b' := w2.heap.size + 1 + 1 + 1 + 1) Ax (by have := Ax.lt; have := Ad.lt; omega) (fm U (fm (fs (fm (fs A C) (fa B D)) (fm (fa A C) (fs B D))) (fs (fm (fs A C) (fa B D)) (fm (fa A C) (fs B D)))))
      have Ba := Arr.st4o (b' := w2.heap.size + 1 + 1 + 1 + 1) Aa (by have := Aa.lt; have := Ad.lt; omega) (fm U (fm (fs (fm (fs A C) (fa B D)) (fm (fa A C) (fs B D))) (fs (fm (fs A C) (fa B D)) (fm (fa A C) (fs B D)))))
      have Bc := Arr.st4o (b' := w2.heap.size + 1 + 1 + 1 + 1) Ac (by have := Ac.lt; have := Ad.lt; omega) (fm U (fm (fs (fm (fs A C) (fa B D)) (fm (fa A C) (fs B D))) (fs (fm (fs A C) (fa B D)) (fm (fa A C) (fs B D)))))
      have Bb := Arr.st4o (b' := w2.heap.size + 1 + 1 + 1 + 1) Ab (by have := Ab.lt; have := Ad.lt; omega) (fm U (fm (fs (fm (fs A C) (fa B D)) (fm (fa A C) (fs B D))) (fs (fm (fs A C) (fa B D)) (fm (fa A C) (fs B D)))))
      have Bd := Arr.st4 Ad (fm U (fm (fs (fm (fs A C) (fa B D)) (fm (fa A C) (fs B D))) (fs (fm (fs A C) (fa B D)) (fm (fa A C) (fs B D)))))
      have Bm := Arr.st4o (b' := w2.heap.size + 1 + 1 + 1 + 1) Am (by have := Am.lt; have := Ad.lt; omega) (fm U (fm (fs (fm (fs A C) (fa B D)) (fm (fa A C) (fs B D))) (fs (fm (fs A C) (fa B D)) (fm (fa A C) (fs B D)))))
      have Bl := Arr.st4o (b' := w2.heap.size + 1 + 1 + 1 + 1) Al (by have := Al.lt; have := Ad.lt; omega) (fm U (fm (fs (fm (fs A C) (fa B D)) (fm (fa A C) (fs B D))) (fs (fm (fs A C) (fa B D)) (fm (fa A C) (fs B D)))))
      have By := Arr.st4o (b' := w2.heap.size + 1 + 1 + 1 + 1) Ay (by have := Ay.lt; have := Ad.lt; omega) (fm U (fm (fs (fm (fs A C) (fa B D)) (fm (fa A C) (fs B D))) (fs (fm (fs A C) (fa B D)) (fm (fa A C) (fs B D)))))
      have hB' := Bel.st4 hB (b := w2.heap.size + 1 + 1 + 1 + 1) (by have := hB.size; omega) (fm U (fm (fs (fm (fs A C) (fa B D)) (fm (fa A C) (fs B D))) (fs (fm (fs A C) (fa B D)) (fm (fa A C) (fs B D)))))
      clear An Ax Aa Ac Ab Ad Am Al Ay hB
      have An := Bn
      have Ax := Bx
      have Aa := Ba
      have Ac := Bc
      have Ab := Bb
      have Ad := Bd
      have Am := Bm
      have Al := Bl
      have Ay := By
      have hB := hB'
      clear Bn Bx Ba Bc Bb Bd Bm Bl By hB'
      have cm := Am.c
      have cl := Al.c
      go_wp2_with fail
      refine (rmul (fm (fa B D) (fa B D)) (fm (fs B D) (fs B D)) (inn_fm _ _) (inn_fm _ _) _).mono ?_
      rintro e w21 ⟨rfl, hb⟩
      replace An := Arr.to' An hb
      replace Ax := Arr.to' Ax hb
      replace Aa := Arr.to' Aa hb
      replace Ac := Arr.to' Ac hb
      replace Ab := Arr.to' Ab hb
      replace Ad := Arr.to' Ad hb
      replace Am := Arr.to' Am hb
      replace Ay := Arr.to' Ay hb
      replace hB := Bel.call hB hb
      clear hb cd zd cm cl Al
      have ca := Aa.c
      have za := Aa.z
      have Bn := Arr.st4o (b' := w2.heap.size + 1) An (by have := An.lt; have := Aa.lt; omega) (fm (fm (fa B D) (fa B D)) (fm (fs B D) (fs B D)))
      have Bx := Arr.st4o (b' := w2.heap.size + 1) Ax (by have := Ax.lt; have := Aa.lt; omega) (fm (fm (fa B D) (fa B D)) (fm (fs B D) (fs B D)))
      have Ba := Arr.st4 Aa (fm (fm (fa B D) (fa B D)) (fm (fs B D) (fs B D)))
      have Bc := Arr.st4o (b' := w2.heap.size + 1) Ac (by have := Ac.lt; have := Aa.lt; omega) (fm (fm (fa B D) (fa B D)) (fm (fs B D) (fs B D)))
      have Bb := Arr.st4o (b' := w2.heap.size + 1) Ab (by have := Ab.lt; have := Aa.lt; omega) (fm (fm (fa B D) (fa B D)) (fm (fs B D) (fs B D)))
      have Bd := Arr.st4o (b' := w2.heap.size + 1) Ad (by have := Ad.lt; have := Aa.lt; omega) (fm (fm (fa B D) (fa B D)) (fm (fs B D) (fs B D)))
      have Bm := Arr.st4o (b' := w2.heap.size + 1) Am (by have := Am.lt; have := Aa.lt; omega) (fm (fm (fa B D) (fa B D)) (fm (fs B D) (fs B D)))
      have By := Arr.st4o (b' := w2.heap.size + 1) Ay (by have := Ay.lt; have := Aa.lt; omega) (fm (fm (fa B D) (fa B D)) (fm (fs B D) (fs B D)))
      have hB' := Bel.st4 hB (b := w2.heap.size + 1) (by have := hB.size; omega) (fm (fm (fa B D) (fa B D)) (fm (fs B D) (fs B D)))
      clear An Ax Aa Ac Ab Ad Am Ay hB
      have An := Bn
      have Ax := Bx
      have Aa := Ba
      have Ac := Bc
      have Ab := Bb
      have Ad := Bd
      have Am := Bm
      have Ay := By
      have hB := hB'
      clear Bn Bx Ba Bc Bb Bd Bm By hB'
      have rm0 := fun ds os => cell_regrown (Am.c 0 (by omega)) ds os
      have rm1 := fun ds os => cell_regrown (Am.c 1 (by omega)) ds os
      have rm2 := fun ds os => cell_regrown (Am.c 2 (by omega)) ds os
      have rm3 := fun ds os => cell_regrown (Am.c 3 (by omega)) ds os
      have ry0 := fun ds os => cell_regrown (Ay.c 0 (by omega)) ds os
      have ry1 := fun ds os => cell_regrown (Ay.c 1 (by omega)) ds os
      have ry2 := fun ds os => cell_regrown (Ay.c 2 (by omega)) ds os
      have ry3 := fun ds os => cell_regrown (Ay.c 3 (by omega)) ds os
      go_wp2_with fail
      refine wp_region_below_tail 7 (by kernel_rfl) (by kernel_rfl) ?_
      simp only [List.take_succ_cons, List.take_zero, List.drop_succ_cons, List.drop_zero]
      repeat (go_big_quiet_step (first | (go_at_call 76; with_reducible exact Calls.regrown_of (radd _ _ (by first | exact inn_fm _ _ | exact inn_fa _ _ | exact inn_fs _ _ | assumption) (by first | exact inn_fm _ _ | exact inn_fa _ _ | exact inn_fs _ _ | assumption) _)) | (go_at_call 78; with_reducible exact Calls.regrown_of (rmul _ _ (by first | exact inn_fm _ _ | exact inn_fa _ _ | exact inn_fs _ _ | assumption) (by first | exact inn_fm _ _ | exact inn_fa _ _ | exact inn_fs _ _ | assumption) _)) | (go_at_call 78; exact Calls.regrown_of (rmulq _ (inn_fs _ _) _))))
      refine wpQuiet_nil ?_
      intro w12 hw'
      obtain ⟨⟨dq, osq⟩, hw''⟩ := hw'
      have hb := below_of hw''
      clear hw''
      replace An := Arr.to' An hb
      replace Ax := Arr.to' Ax hb
      replace Aa := Arr.to' Aa hb
      replace Ac := Arr.to' Ac hb
      replace Ab := Arr.to' Ab hb
      replace Ad := Arr.to' Ad hb
      replace hB := Bel.call hB hb
      clear hb ca za rm0 rm1 rm2 rm3 ry0 ry1 ry2 ry3 Am Ay
      have ca := Aa.c
      have za := Aa.z
      have cb := Ab.c
      have zb := Ab.z
      have cc := Ac.c
      have zc := Ac.z
      have cd := Ad.c
      have zd := Ad.z
      have Bn := Arr.st4o (b' := w2.heap.size + 1 + 1) An (by have := An.lt; have := Ac.lt; omega) (fm (fs (fm (fa B D) (fa B D)) (fm (fs B D) (fs B D))) (fa (fm (fa B D) (fa B D)) (fm 121665 (fs (fm (fa B D) (fa B D)) (fm (fs B D) (fs B D))))))
      have Bx := Arr.st4o (b' := w2.heap.size + 1 + 1) Ax (by have := Ax.lt; have := Ac.lt; omega) (fm (fs (fm (fa B D) (fa B D)) (fm (fs B D) (fs B D))) (fa (fm (fa B D) (fa B D)) (fm 121665 (fs (fm (fa B D) (fa B D)) (fm (fs B D) (fs B D))))))
      have Ba := Arr.st4o (b' := w2.heap.size + 1 + 1) Aa (by have := Aa.lt; have := Ac.lt; omega) (fm (fs (fm (fa B D) (fa B D)) (fm (fs B D) (fs B D))) (fa (fm (fa B D) (fa B D)) (fm 121665 (fs (fm (fa B D) (fa B D)) (fm (fs B D) (fs B D))))))
      have Bc := Arr.st4 Ac (fm (fs (fm (fa B D) (fa B D)) (fm (fs B D) (fs B D))) (fa (fm (fa B D) (fa B D)) (fm 121665 (fs (fm (fa B D) (fa B D)) (fm (fs B D) (fs B D))))))
      have Bb := Arr.st4o (b' := w2.heap.size + 1 + 1) Ab (by have := Ab.lt; have := Ac.lt; omega) (fm (fs (fm (fa B D) (fa B D)) (fm (fs B D) (fs B D))) (fa (fm (fa B D) (fa B D)) (fm 121665 (fs (fm (fa B D) (fa B D)) (fm (fs B D) (fs B D))))))
      have Bd := Arr.st4o (b' := w2.heap.size + 1 + 1) Ad (by have := Ad.lt; have := Ac.lt; omega) (fm (fs (fm (fa B D) (fa B D)) (fm (fs B D) (fs B D))) (fa (fm (fa B D) (fa B D)) (fm 121665 (fs (fm (fa B D) (fa B D)) (fm (fs B D) (fs B D))))))
      have hB' := Bel.st4 hB (b := w2.heap.size + 1 + 1) (by have := hB.size; omega) (fm (fs (fm (fa B D) (fa B D)) (fm (fs B D) (fs B D))) (fa (fm (fa B D) (fa B D)) (fm 121665 (fs (fm (fa B D) (fa B D)) (fm (fs B D) (fs B D))))))
      clear An Ax Aa Ac Ab Ad hB
      have An := Bn
      have Ax := Bx
      have Aa := Ba
      have Ac := Bc
      have Ab := Bb
      have Ad := Bd
      have hB := hB'
      clear Bn Bx Ba Bc Bb Bd hB'
      have Bn := Arr.st4o (b' := w2.heap.size + 1) An (by have := An.lt; have := Aa.lt; omega) (fm (fa (fm (fs A C) (fa B D)) (fm (fa A C) (fs B D))) (fa (fm (fs A C) (fa B D)) (fm (fa A C) (fs B D))))
      have Bx := Arr.st4o (b' := w2.heap.size + 1) Ax (by have := Ax.lt; have := Aa.lt; omega) (fm (fa (fm (fs A C) (fa B D)) (fm (fa A C) (fs B D))) (fa (fm (fs A C) (fa B D)) (fm (fa A C) (fs B D))))
      have Ba := Arr.st4 Aa (fm (fa (fm (fs A C) (fa B D)) (fm (fa A C) (fs B D))) (fa (fm (fs A C) (fa B D)) (fm (fa A C) (fs B D))))
      have Bc := Arr.st4o (b' := w2.heap.size + 1) Ac (by have := Ac.lt; have := Aa.lt; omega) (fm (fa (fm (fs A C) (fa B D)) (fm (fa A C) (fs B D))) (fa (fm (fs A C) (fa B D)) (fm (fa A C) (fs B D))))
      have Bb := Arr.st4o (b' := w2.heap.size + 1) Ab (by have := Ab.lt; have := Aa.lt; omega) (fm (fa (fm (fs A C) (fa B D)) (fm (fa A C) (fs B D))) (fa (fm (fs A C) (fa B D)) (fm (fa A C) (fs B D))))
      have Bd := Arr.st4o (b' := w2.heap.size + 1) Ad (by have := Ad.lt; have := Aa.lt; omega) (fm (fa (fm (fs A C) (fa B D)) (fm (fa A C) (fs B D))) (fa (fm (fs A C) (fa B D)) (fm (fa A C) (fs B D))))
      have hB' := Bel.st4 hB (b := w2.heap.size + 1) (by have := hB.size; omega) (fm (fa (fm (fs A C) (fa B D)) (fm (fa A C) (fs B D))) (fa (fm (fs A C) (fa B D)) (fm (fa A C) (fs B D))))
      clear An Ax Aa Ac Ab Ad hB
      have An := Bn
      have Ax := Bx
      have Aa := Ba
      have Ac := Bc
      have Ab := Bb
      have Ad := Bd
      have hB := hB'
      clear Bn Bx Ba Bc Bb Bd hB'
      have Bn := Arr.st4o (b' := w2.heap.size + 1 + 1 + 1) An (by have := An.lt; have := Ab.lt; omega) (fm (fm (fa B D) (fa B D)) (fm (fs B D) (fs B D)))
      have Bx := Arr.st4o (b' := w2.heap.size + 1 + 1 + 1) Ax (by have := Ax.lt; have := Ab.lt; omega) (fm (fm (fa B D) (fa B D)) (fm (fs B D) (fs B D)))
      have Ba := Arr.st4o (b' := w2.heap.size + 1 + 1 + 1) Aa (by have := Aa.lt; have := Ab.lt; omega) (fm (fm (fa B D) (fa B D)) (fm (fs B D) (fs B D)))
      have Bc := Arr.st4o (b' := w2.heap.size + 1 + 1 + 1) Ac (by have := Ac.lt; have := Ab.lt; omega) (fm (fm (fa B D) (fa B D)) (fm (fs B D) (fs B D)))
      have Bb := Arr.st4 Ab (fm (fm (fa B D) (fa B D)) (fm (fs B D) (fs B D)))
      have Bd := Arr.st4o (b' := w2.heap.size + 1 + 1 + 1) Ad (by have := Ad.lt; have := Ab.lt; omega) (fm (fm (fa B D) (fa B D)) (fm (fs B D) (fs B D)))
      have hB' := Bel.st4 hB (b := w2.heap.size + 1 + 1 + 1) (by have := hB.size; omega) (fm (fm (fa B D) (fa B D)) (fm (fs B D) (fs B D)))
      clear An Ax Aa Ac Ab Ad hB
      have An := Bn
      have Ax := Bx
      have Aa := Ba
      have Ac := Bc
      have Ab := Bb
      have Ad := Bd
      have hB := hB'
      clear Bn Bx Ba Bc Bb Bd hB'
      have Bn := Arr.st4o (b' := w2.heap.size + 1 + 1) An (by have := An.lt; have := Ac.lt; omega) (fm U (fm (fs (fm (fs A C) (fa B D)) (fm (fa A C) (fs B D))) (fs (fm (fs A C) (fa B D)) (fm (fa A C) (fs B D)))))
      have Bx := Arr.st4o (b' := w2.heap.size + 1 + 1) Ax (by have := Ax.lt; have := Ac.lt; omega) (fm U (fm (fs (fm (fs A C) (fa B D)) (fm (fa A C) (fs B D))) (fs (fm (fs A C) (fa B D)) (fm (fa A C) (fs B D)))))
      have Ba := Arr.st4o (b' := w2.heap.size + 1 + 1) Aa (by have := Aa.lt; have := Ac.lt; omega) (fm U (fm (fs (fm (fs A C) (fa B D)) (fm (fa A C) (fs B D))) (fs (fm (fs A C) (fa B D)) (fm (fa A C) (fs B D)))))
      have Bc := Arr.st4 Ac (fm U (fm (fs (fm (fs A C) (fa B D)) (fm (fa A C) (fs B D))) (fs (fm (fs A C) (fa B D)) (fm (fa A C) (fs B D)))))
      have Bb := Arr.st4o (b' := w2.heap.size + 1 + 1) Ab (by have := Ab.lt; have := Ac.lt; omega) (fm U (fm (fs (fm (fs A C) (fa B D)) (fm (fa A C) (fs B D))) (fs (fm (fs A C) (fa B D)) (fm (fa A C) (fs B D)))))
      have Bd := Arr.st4o (b' := w2.heap.size + 1 + 1) Ad (by have := Ad.lt; have := Ac.lt; omega) (fm U (fm (fs (fm (fs A C) (fa B D)) (fm (fa A C) (fs B D))) (fs (fm (fs A C) (fa B D)) (fm (fa A C) (fs B D)))))
      have hB' := Bel.st4 hB (b := w2.heap.size + 1 + 1) (by have := hB.size; omega) (fm U (fm (fs (fm (fs A C) (fa B D)) (fm (fa A C) (fs B D))) (fs (fm (fs A C) (fa B D)) (fm (fa A C) (fs B D)))))
      clear An Ax Aa Ac Ab Ad hB
      have An := Bn
      have Ax := Bx
      have Aa := Ba
      have Ac := Bc
      have Ab := Bb
      have Ad := Bd
      have hB := hB'
      clear Bn Bx Ba Bc Bb Bd hB'
      have Bn := Arr.st4o (b' := w2.heap.size + 1 + 1 + 1 + 1) An (by have := An.lt; have := Ad.lt; omega) (fm (fs (fm (fa B D) (fa B D)) (fm (fs B D) (fs B D))) (fa (fm (fa B D) (fa B D)) (fm 121665 (fs (fm (fa B D) (fa B D)) (fm (fs B D) (fs B D))))))
      have Bx := Arr.st4o (b' := w2.heap.size + 1 + 1 + 1 + 1) Ax (by have := Ax.lt; have := Ad.lt; omega) (fm (fs (fm (fa B D) (fa B D)) (fm (fs B D) (fs B D))) (fa (fm (fa B D) (fa B D)) (fm 121665 (fs (fm (fa B D) (fa B D)) (fm (fs B D) (fs B D))))))
      have Ba := Arr.st4o (b' := w2.heap.size + 1 + 1 + 1 + 1) Aa (by have := Aa.lt; have := Ad.lt; omega) (fm (fs (fm (fa B D) (fa B D)) (fm (fs B D) (fs B D))) (fa (fm (fa B D) (fa B D)) (fm 121665 (fs (fm (fa B D) (fa B D)) (fm (fs B D) (fs B D))))))
      have Bc := Arr.st4o (b' := w2.heap.size + 1 + 1 + 1 + 1) Ac (by have := Ac.lt; have := Ad.lt; omega) (fm (fs (fm (fa B D) (fa B D)) (fm (fs B D) (fs B D))) (fa (fm (fa B D) (fa B D)) (fm 121665 (fs (fm (fa B D) (fa B D)) (fm (fs B D) (fs B D))))))
      have Bb := Arr.st4o (b' := w2.heap.size + 1 + 1 + 1 + 1) Ab (by have := Ab.lt; have := Ad.lt; omega) (fm (fs (fm (fa B D) (fa B D)) (fm (fs B D) (fs B D))) (fa (fm (fa B D) (fa B D)) (fm 121665 (fs (fm (fa B D) (fa B D)) (fm (fs B D) (fs B D))))))
      have Bd := Arr.st4 Ad (fm (fs (fm (fa B D) (fa B D)) (fm (fs B D) (fs B D))) (fa (fm (fa B D) (fa B D)) (fm 121665 (fs (fm (fa B D) (fa B D)) (fm (fs B D) (fs B D))))))
      have hB' := Bel.st4 hB (b := w2.heap.size + 1 + 1 + 1 + 1) (by have := hB.size; omega) (fm (fs (fm (fa B D) (fa B D)) (fm (fs B D) (fs B D))) (fa (fm (fa B D) (fa B D)) (fm 121665 (fs (fm (fa B D) (fa B D)) (fm (fs B D) (fs B D))))))
      clear An Ax Aa Ac Ab Ad hB
      have An := Bn
      have Ax := Bx
      have Aa := Ba
      have Ac := Bc
      have Ab := Bb
      have Ad := Bd
      have hB := hB'
      clear Bn Bx Ba Bc Bb Bd hB'
      go_wp2_with fail
      go_roundw
      case rel => exact ⟨j, _, _, _, _, by omega, by go_num, ⟨hB, ⟨h01, h12⟩, An, Ax, Aa, Ac, Ab, Ad⟩, HN⟩
      case measure => simp [intOf]
end Go.Proofs.Ytpigofooblmdhaa
