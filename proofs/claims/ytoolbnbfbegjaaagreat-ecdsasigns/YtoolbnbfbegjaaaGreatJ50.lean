/- The reference's triples: plus. -/
import Derived.Test.YtoolbnbfbegjaaaGreatJ45
set_option linter.all false
set_option maxRecDepth 100000
namespace Go.Proofs.YtoolbnbfbegjaaaGreat
open Go.RowKit Go.Sort
attribute [local go_sem] eq24
set_option maxHeartbeats 8000000 in
theorem rplus_none (x1 y1 z1 x2 y2 z2 za zb u k1 h k2 s k3 k4 r : Int) (h1 : (lim z1 0 == 0 && (lim z1 1 == 0 && (lim z1 2 == 0 && lim z1 3 == 0))) = false) (h2 : (lim z2 0 == 0 && (lim z2 1 == 0 && (lim z2 2 == 0 && lim z2 3 == 0))) = false) (hh : (lim h 0 == 0 && (lim h 1 == 0 && (lim h 2 == 0 && lim h 3 == 0))) = true) (hr : (lim r 0 == 0 && (lim r 1 == 0 && (lim r 2 == 0 && lim r 3 == 0))) = false) (w : World)
    (C1 : ∀ W, Calls Tryz.prog 73 #[nv z1, nv z1] W fun e w' => e = .returned (nv za) ∧ Below W.heap.size W w')
    (C2 : ∀ W, Calls Tryz.prog 73 #[nv z2, nv z2] W fun e w' => e = .returned (nv zb) ∧ Below W.heap.size W w')
    (C3 : ∀ W, Calls Tryz.prog 73 #[nv x1, nv zb] W fun e w' => e = .returned (nv u) ∧ Below W.heap.size W w')
    (C4 : ∀ W, Calls Tryz.prog 73 #[nv x2, nv za] W fun e w' => e = .returned (nv k1) ∧ Below W.heap.size W w')
    (C5 : ∀ W, Calls Tryz.prog 74 #[nv k1, nv u] W fun e w' => e = .returned (nv h) ∧ Below W.heap.size W w')
    (C6 : ∀ W, Calls Tryz.prog 73 #[nv zb, nv z2] W fun e w' => e = .returned (nv k2) ∧ Below W.heap.size W w')
    (C7 : ∀ W, Calls Tryz.prog 73 #[nv y1, nv k2] W fun e w' => e = .returned (nv s) ∧ Below W.heap.size W w')
    (C8 : ∀ W, Calls Tryz.prog 73 #[nv za, nv z1] W fun e w' => e = .returned (nv k3) ∧ Below W.heap.size W w')
    (C9 : ∀ W, Calls Tryz.prog 73 #[nv y2, nv k3] W fun e w' => e = .returned (nv k4) ∧ Below W.heap.size W w')
    (C10 : ∀ W, Calls Tryz.prog 74 #[nv k4, nv s] W fun e w' => e = .returned (nv r) ∧ Below W.heap.size W w') :
    Calls Tryz.prog 76 #[tv x1 y1 z1, tv x2 y2 z2] w fun e w' => e = .returned (.agg #[.int .u64 1, .int .u64 0, .int .u64 0, .int .u64 0, .int .u64 1, .int .u64 0, .int .u64 0, .int .u64 0, .int .u64 0, .int .u64 0, .int .u64 0, .int .u64 0]) ∧ Below w.heap.size w w' := by
  go_enter Tryz.func76, Tryz.ntmps76
  obtain ⟨W0, hW0⟩ : ∃ W0, W0 = (((w.alloc (.cells #[.int .u64 (lim (x1) 0), .int .u64 (lim (x1) 1), .int .u64 (lim (x1) 2), .int .u64 (lim (x1) 3), .int .u64 (lim (y1) 0), .int .u64 (lim (y1) 1), .int .u64 (lim (y1) 2), .int .u64 (lim (y1) 3), .int .u64 (lim (z1) 0), .int .u64 (lim (z1) 1), .int .u64 (lim (z1) 2), .int .u64 (lim (z1) 3)] 81)).alloc (.cells #[.int .u64 (lim (x2) 0), .int .u64 (lim (x2) 1), .int .u64 (lim (x2) 2), .int .u64 (lim (x2) 3), .int .u64 (lim (y2) 0), .int .u64 (lim (y2) 1), .int .u64 (lim (y2) 2), .int .u64 (lim (y2) 3), .int .u64 (lim (z2) 0), .int .u64 (lim (z2) 1), .int .u64 (lim (z2) 2), .int .u64 (lim (z2) 3)] 81)).alloc (.cells #[.int .u64 0, .int .u64 0, .int .u64 0, .int .u64 0, .int .u64 0, .int .u64 0, .int .u64 0, .int .u64 0, .int .u64 0, .int .u64 0, .int .u64 0, .int .u64 0] 81)) := ⟨_, rfl⟩
  have Aa : Arr W0 (w.heap.size) 12 (trx (x1) (y1) (z1)) := by subst hW0; refine Arr.mk12 ?_ ?_ ?_ ?_ ?_ ?_ ?_ ?_ ?_ ?_ ?_ ?_ ?_ <;> simp [go_sem, px, sx, zx, trx, trz]
  have Ab : Arr W0 (w.heap.size + 1) 12 (trx (x2) (y2) (z2)) := by subst hW0; refine Arr.mk12 ?_ ?_ ?_ ?_ ?_ ?_ ?_ ?_ ?_ ?_ ?_ ?_ ?_ <;> simp [go_sem, px, sx, zx, trx, trz]
  have Ao : Arr W0 (w.heap.size + 1 + 1) 12 (trz) := by subst hW0; refine Arr.mk12 ?_ ?_ ?_ ?_ ?_ ?_ ?_ ?_ ?_ ?_ ?_ ?_ ?_ <;> simp [go_sem, px, sx, zx, trx, trz]
  have hB : Below w.heap.size w W0 := by subst hW0; go_grown
  subst hW0
  obtain ⟨ca_0, ca_1, ca_2, ca_3, ca_4, ca_5, ca_6, ca_7, ca_8, ca_9, ca_10, ca_11⟩ := Arr.c_trx Aa
  obtain ⟨cb_0, cb_1, cb_2, cb_3, cb_4, cb_5, cb_6, cb_7, cb_8, cb_9, cb_10, cb_11⟩ := Arr.c_trx Ab
  go_wp2_with fail
  refine (C1 _).mono ?_
  rintro e w11 ⟨rfl, hb⟩
  replace Aa := Arr.to' Aa hb
  replace Ab := Arr.to' Ab hb
  replace Ao := Arr.to' Ao hb
  replace hB := Bel.call hB hb
  clear hb ca_0 ca_1 ca_2 ca_3 ca_4 ca_5 ca_6 ca_7 ca_8 ca_9 ca_10 ca_11 cb_0 cb_1 cb_2 cb_3 cb_4 cb_5 cb_6 cb_7 cb_8 cb_9 cb_10 cb_11
  have la_2 := Aa.lt
  have lb_2 := Ab.lt
  have lo_2 := Ao.lt
  have lB_2 := hB.size
  replace Aa := (Arr.al' Aa (.cells #[.int .u64 (lim (za) 0), .int .u64 (lim (za) 1), .int .u64 (lim (za) 2), .int .u64 (lim (za) 3)] 24))
  replace Ab := (Arr.al' Ab (.cells #[.int .u64 (lim (za) 0), .int .u64 (lim (za) 1), .int .u64 (lim (za) 2), .int .u64 (lim (za) 3)] 24))
  replace Ao := (Arr.al' Ao (.cells #[.int .u64 (lim (za) 0), .int .u64 (lim (za) 1), .int .u64 (lim (za) 2), .int .u64 (lim (za) 3)] 24))
  have Ap : Arr ((w11.alloc (.cells #[.int .u64 (lim (za) 0), .int .u64 (lim (za) 1), .int .u64 (lim (za) 2), .int .u64 (lim (za) 3)] 24))) (w11.heap.size) 4 (fun j => .int .u64 (lim (za) j)) := by refine Arr.mk4 ?_ ?_ ?_ ?_ ?_ ?_ ?_ ?_ <;> simp [go_sem]
  replace hB := (Bel.al hB (.cells #[.int .u64 (lim (za) 0), .int .u64 (lim (za) 1), .int .u64 (lim (za) 2), .int .u64 (lim (za) 3)] 24))
  obtain ⟨cb_0, cb_1, cb_2, cb_3, cb_4, cb_5, cb_6, cb_7, cb_8, cb_9, cb_10, cb_11⟩ := Arr.c_trx Ab
  go_wp2_with fail
  refine (C2 _).mono ?_
  rintro e w2 ⟨rfl, hb⟩
  replace Aa := Arr.to' Aa hb
  replace Ab := Arr.to' Ab hb
  replace Ao := Arr.to' Ao hb
  replace Ap := Arr.to' Ap hb
  replace hB := Bel.call hB hb
  clear hb cb_0 cb_1 cb_2 cb_3 cb_4 cb_5 cb_6 cb_7 cb_8 cb_9 cb_10 cb_11
  have la_3 := Aa.lt
  have lb_3 := Ab.lt
  have lo_3 := Ao.lt
  have lp_3 := Ap.lt
  have lB_3 := hB.size
  replace Aa := (Arr.al' Aa (.cells #[.int .u64 (lim (zb) 0), .int .u64 (lim (zb) 1), .int .u64 (lim (zb) 2), .int .u64 (lim (zb) 3)] 24))
  replace Ab := (Arr.al' Ab (.cells #[.int .u64 (lim (zb) 0), .int .u64 (lim (zb) 1), .int .u64 (lim (zb) 2), .int .u64 (lim (zb) 3)] 24))
  replace Ao := (Arr.al' Ao (.cells #[.int .u64 (lim (zb) 0), .int .u64 (lim (zb) 1), .int .u64 (lim (zb) 2), .int .u64 (lim (zb) 3)] 24))
  replace Ap := (Arr.al' Ap (.cells #[.int .u64 (lim (zb) 0), .int .u64 (lim (zb) 1), .int .u64 (lim (zb) 2), .int .u64 (lim (zb) 3)] 24))
  have Aq : Arr ((w2.alloc (.cells #[.int .u64 (lim (zb) 0), .int .u64 (lim (zb) 1), .int .u64 (lim (zb) 2), .int .u64 (lim (zb) 3)] 24))) (w2.heap.size) 4 (fun j => .int .u64 (lim (zb) j)) := by refine Arr.mk4 ?_ ?_ ?_ ?_ ?_ ?_ ?_ ?_ <;> simp [go_sem]
  replace hB := (Bel.al hB (.cells #[.int .u64 (lim (zb) 0), .int .u64 (lim (zb) 1), .int .u64 (lim (zb) 2), .int .u64 (lim (zb) 3)] 24))
  obtain ⟨ca_0, ca_1, ca_2, ca_3, ca_4, ca_5, ca_6, ca_7, ca_8, ca_9, ca_10, ca_11⟩ := Arr.c_trx Aa
  have cq := Aq.c
  go_wp2_with fail
  refine (C3 _).mono ?_
  rintro e w3 ⟨rfl, hb⟩
  replace Aa := Arr.to' Aa hb
  replace Ab := Arr.to' Ab hb
  replace Ao := Arr.to' Ao hb
  replace Ap := Arr.to' Ap hb
  replace Aq := Arr.to' Aq hb
  replace hB := Bel.call hB hb
  clear hb ca_0 ca_1 ca_2 ca_3 ca_4 ca_5 ca_6 ca_7 ca_8 ca_9 ca_10 ca_11 cq
  have la_4 := Aa.lt
  have lb_4 := Ab.lt
  have lo_4 := Ao.lt
  have lp_4 := Ap.lt
  have lq_4 := Aq.lt
  have lB_4 := hB.size
  replace Aa := (Arr.al' Aa (.cells #[.int .u64 (lim (u) 0), .int .u64 (lim (u) 1), .int .u64 (lim (u) 2), .int .u64 (lim (u) 3)] 24))
  replace Ab := (Arr.al' Ab (.cells #[.int .u64 (lim (u) 0), .int .u64 (lim (u) 1), .int .u64 (lim (u) 2), .int .u64 (lim (u) 3)] 24))
  replace Ao := (Arr.al' Ao (.cells #[.int .u64 (lim (u) 0), .int .u64 (lim (u) 1), .int .u64 (lim (u) 2), .int .u64 (lim (u) 3)] 24))
  replace Ap := (Arr.al' Ap (.cells #[.int .u64 (lim (u) 0), .int .u64 (lim (u) 1), .int .u64 (lim (u) 2), .int .u64 (lim (u) 3)] 24))
  replace Aq := (Arr.al' Aq (.cells #[.int .u64 (lim (u) 0), .int .u64 (lim (u) 1), .int .u64 (lim (u) 2), .int .u64 (lim (u) 3)] 24))
  have Au : Arr ((w3.alloc (.cells #[.int .u64 (lim (u) 0), .int .u64 (lim (u) 1), .int .u64 (lim (u) 2), .int .u64 (lim (u) 3)] 24))) (w3.heap.size) 4 (fun j => .int .u64 (lim (u) j)) := by refine Arr.mk4 ?_ ?_ ?_ ?_ ?_ ?_ ?_ ?_ <;> simp [go_sem]
  replace hB := (Bel.al hB (.cells #[.int .u64 (lim (u) 0), .int .u64 (lim (u) 1), .int .u64 (lim (u) 2), .int .u64 (lim (u) 3)] 24))
  go_wp2_with fail
  apply wp_region_alloc_tail 6 (by kernel_rfl) (by kernel_rfl) (by kernel_rfl) (.cells #[.int .u64 0, .int .u64 0, .int .u64 0, .int .u64 0] 24) _ rfl (fun _ _ => by simp [go_sem])
  · intro W hW
    obtain ⟨rb0, rb1, rb2, rb3, rb4, rb5, rb6, rb7, rb8, rb9, rb10, rb11⟩ := Arr.g_trx (Arr.to' Ab hW)
    obtain ⟨rp0, rp1, rp2, rp3⟩ := Arr.g4 (Arr.to' Ap hW)
    obtain ⟨ru0, ru1, ru2, ru3⟩ := Arr.g4 (Arr.to' Au hW)
    simp only [List.take_succ_cons, List.take_zero]
    repeat (go_big_quiet_step (first | (go_at_call 73; with_reducible first | exact Calls.regrown_of (C4 _)) | (go_at_call 74; with_reducible first | exact Calls.regrown_of (C5 _))))
    exact wpQuiet_nil rfl
  intro v4 w14 hb1 hb2
  simp only [List.drop_succ_cons, List.drop_zero, Act.put, List.setIfInBounds_toArray, List.set_cons_succ, List.set_cons_zero]
  have Ea := Arr.to' Aa hb1
  have la_v4 := Ea.lt
  have Ba := Arr.to' (Arr.al' Ea _) hb2
  have Eb := Arr.to' Ab hb1
  have lb_v4 := Eb.lt
  have Bb := Arr.to' (Arr.al' Eb _) hb2
  have Eo := Arr.to' Ao hb1
  have lo_v4 := Eo.lt
  have Bo := Arr.to' (Arr.al' Eo _) hb2
  have Ep := Arr.to' Ap hb1
  have lp_v4 := Ep.lt
  have Bp := Arr.to' (Arr.al' Ep _) hb2
  have Eq := Arr.to' Aq hb1
  have lq_v4 := Eq.lt
  have Bq := Arr.to' (Arr.al' Eq _) hb2
  have Eu := Arr.to' Au hb1
  have lu_v4 := Eu.lt
  have Bu := Arr.to' (Arr.al' Eu _) hb2
  have Bh := (Arr.mk4 (w := (v4.alloc (.cells #[.int .u64 0, .int .u64 0, .int .u64 0, .int .u64 0] 24))) (f := fun _ => .int .u64 0) (b := v4.heap.size) (by simp [go_sem]) (by simp [go_sem]) (by simp [go_sem]) (by simp [go_sem]) (by simp [go_sem]) (by simp [go_sem]) (by simp [go_sem]) (by simp [go_sem])).below hb2 (by go_size)
  have lB_v4 := (Bel.call hB hb1).size
  have hB' := Bel.call (Bel.al (Bel.call hB hb1) _) hb2
  clear hb1 hb2 Ea Eb Eo Ep Eq Eu Aa Ab Ao Ap Aq Au hB
  have Aa := Ba
  have Ab := Bb
  have Ao := Bo
  have Ap := Bp
  have Aq := Bq
  have Au := Bu
  have Ah := Bh
  have hB := hB'
  clear Ba Bb Bo Bp Bq Bu Bh hB'
  have ch := Ah.c
  have zh := Ah.z
  have Ba := Arr.st4o (b' := v4.heap.size) Aa (by have := Aa.lt; have := Ah.lt; omega) (h)
  have Bb := Arr.st4o (b' := v4.heap.size) Ab (by have := Ab.lt; have := Ah.lt; omega) (h)
  have Bo := Arr.st4o (b' := v4.heap.size) Ao (by have := Ao.lt; have := Ah.lt; omega) (h)
  have Bp := Arr.st4o (b' := v4.heap.size) Ap (by have := Ap.lt; have := Ah.lt; omega) (h)
  have Bq := Arr.st4o (b' := v4.heap.size) Aq (by have := Aq.lt; have := Ah.lt; omega) (h)
  have Bu := Arr.st4o (b' := v4.heap.size) Au (by have := Au.lt; have := Ah.lt; omega) (h)
  have Bh := Arr.st4 Ah (h)
  have hB' := Bel.st4 hB (b := v4.heap.size) (by have := hB.size; omega) (h)
  clear Aa Ab Ao Ap Aq Au Ah hB
  have Aa := Ba
  have Ab := Bb
  have Ao := Bo
  have Ap := Bp
  have Aq := Bq
  have Au := Bu
  have Ah := Bh
  have hB := hB'
  clear Ba Bb Bo Bp Bq Bu Bh hB'
  go_wp2_with fail
  apply wp_region_alloc_tail 7 (by kernel_rfl) (by kernel_rfl) (by kernel_rfl) (.cells #[.int .u64 0, .int .u64 0, .int .u64 0, .int .u64 0] 24) _ rfl (fun _ _ => by simp [go_sem])
  · intro W hW
    obtain ⟨ra0, ra1, ra2, ra3, ra4, ra5, ra6, ra7, ra8, ra9, ra10, ra11⟩ := Arr.g_trx (Arr.to' Aa hW)
    obtain ⟨rb0, rb1, rb2, rb3, rb4, rb5, rb6, rb7, rb8, rb9, rb10, rb11⟩ := Arr.g_trx (Arr.to' Ab hW)
    obtain ⟨rq0, rq1, rq2, rq3⟩ := Arr.g4 (Arr.to' Aq hW)
    simp only [List.take_succ_cons, List.take_zero]
    repeat (go_big_quiet_step (first | (go_at_call 73; with_reducible first | exact Calls.regrown_of (C6 _) | exact Calls.regrown_of (C7 _))))
    exact wpQuiet_nil rfl
  intro v5 w15 hb1 hb2
  simp only [List.drop_succ_cons, List.drop_zero, Act.put, List.setIfInBounds_toArray, List.set_cons_succ, List.set_cons_zero]
  have Ea := Arr.to' Aa hb1
  have la_v5 := Ea.lt
  have Ba := Arr.to' (Arr.al' Ea _) hb2
  have Eb := Arr.to' Ab hb1
  have lb_v5 := Eb.lt
  have Bb := Arr.to' (Arr.al' Eb _) hb2
  have Eo := Arr.to' Ao hb1
  have lo_v5 := Eo.lt
  have Bo := Arr.to' (Arr.al' Eo _) hb2
  have Ep := Arr.to' Ap hb1
  have lp_v5 := Ep.lt
  have Bp := Arr.to' (Arr.al' Ep _) hb2
  have Eq := Arr.to' Aq hb1
  have lq_v5 := Eq.lt
  have Bq := Arr.to' (Arr.al' Eq _) hb2
  have Eu := Arr.to' Au hb1
  have lu_v5 := Eu.lt
  have Bu := Arr.to' (Arr.al' Eu _) hb2
  have Eh := Arr.to' Ah hb1
  have lh_v5 := Eh.lt
  have Bh := Arr.to' (Arr.al' Eh _) hb2
  have Bs := (Arr.mk4 (w := (v5.alloc (.cells #[.int .u64 0, .int .u64 0, .int .u64 0, .int .u64 0] 24))) (f := fun _ => .int .u64 0) (b := v5.heap.size) (by simp [go_sem]) (by simp [go_sem]) (by simp [go_sem]) (by simp [go_sem]) (by simp [go_sem]) (by simp [go_sem]) (by simp [go_sem]) (by simp [go_sem])).below hb2 (by go_size)
  have lB_v5 := (Bel.call hB hb1).size
  have hB' := Bel.call (Bel.al (Bel.call hB hb1) _) hb2
  clear hb1 hb2 Ea Eb Eo Ep Eq Eu Eh Aa Ab Ao Ap Aq Au Ah hB
  have Aa := Ba
  have Ab := Bb
  have Ao := Bo
  have Ap := Bp
  have Aq := Bq
  have Au := Bu
  have Ah := Bh
  have As := Bs
  have hB := hB'
  clear Ba Bb Bo Bp Bq Bu Bh Bs hB'
  have cs := As.c
  have zs := As.z
  have Ba := Arr.st4o (b' := v5.heap.size) Aa (by have := Aa.lt; have := As.lt; omega) (s)
  have Bb := Arr.st4o (b' := v5.heap.size) Ab (by have := Ab.lt; have := As.lt; omega) (s)
  have Bo := Arr.st4o (b' := v5.heap.size) Ao (by have := Ao.lt; have := As.lt; omega) (s)
  have Bp := Arr.st4o (b' := v5.heap.size) Ap (by have := Ap.lt; have := As.lt; omega) (s)
  have Bq := Arr.st4o (b' := v5.heap.size) Aq (by have := Aq.lt; have := As.lt; omega) (s)
  have Bu := Arr.st4o (b' := v5.heap.size) Au (by have := Au.lt; have := As.lt; omega) (s)
  have Bh := Arr.st4o (b' := v5.heap.size) Ah (by have := Ah.lt; have := As.lt; omega) (s)
  have Bs := Arr.st4 As (s)
  have hB' := Bel.st4 hB (b := v5.heap.size) (by have := hB.size; omega) (s)
  clear Aa Ab Ao Ap Aq Au Ah As hB
  have Aa := Ba
  have Ab := Bb
  have Ao := Bo
  have Ap := Bp
  have Aq := Bq
  have Au := Bu
  have Ah := Bh
  have As := Bs
  have hB := hB'
  clear Ba Bb Bo Bp Bq Bu Bh Bs hB'
  go_wp2_with fail
  apply wp_region_alloc_tail 9 (by kernel_rfl) (by kernel_rfl) (by kernel_rfl) (.cells #[.int .u64 0, .int .u64 0, .int .u64 0, .int .u64 0] 24) _ rfl (fun _ _ => by simp [go_sem])
  · intro W hW
    obtain ⟨ra0, ra1, ra2, ra3, ra4, ra5, ra6, ra7, ra8, ra9, ra10, ra11⟩ := Arr.g_trx (Arr.to' Aa hW)
    obtain ⟨rb0, rb1, rb2, rb3, rb4, rb5, rb6, rb7, rb8, rb9, rb10, rb11⟩ := Arr.g_trx (Arr.to' Ab hW)
    obtain ⟨rp0, rp1, rp2, rp3⟩ := Arr.g4 (Arr.to' Ap hW)
    obtain ⟨rs0, rs1, rs2, rs3⟩ := Arr.g4 (Arr.to' As hW)
    simp only [List.take_succ_cons, List.take_zero]
    repeat (go_big_quiet_step (first | (go_at_call 73; with_reducible first | exact Calls.regrown_of (C8 _) | exact Calls.regrown_of (C9 _)) | (go_at_call 74; with_reducible first | exact Calls.regrown_of (C10 _))))
    exact wpQuiet_nil rfl
  intro v6 w16 hb1 hb2
  simp only [List.drop_succ_cons, List.drop_zero, Act.put, List.setIfInBounds_toArray, List.set_cons_succ, List.set_cons_zero]
  have Ea := Arr.to' Aa hb1
  have la_v6 := Ea.lt
  have Ba := Arr.to' (Arr.al' Ea _) hb2
  have Eb := Arr.to' Ab hb1
  have lb_v6 := Eb.lt
  have Bb := Arr.to' (Arr.al' Eb _) hb2
  have Eo := Arr.to' Ao hb1
  have lo_v6 := Eo.lt
  have Bo := Arr.to' (Arr.al' Eo _) hb2
  have Ep := Arr.to' Ap hb1
  have lp_v6 := Ep.lt
  have Bp := Arr.to' (Arr.al' Ep _) hb2
  have Eq := Arr.to' Aq hb1
  have lq_v6 := Eq.lt
  have Bq := Arr.to' (Arr.al' Eq _) hb2
  have Eu := Arr.to' Au hb1
  have lu_v6 := Eu.lt
  have Bu := Arr.to' (Arr.al' Eu _) hb2
  have Eh := Arr.to' Ah hb1
  have lh_v6 := Eh.lt
  have Bh := Arr.to' (Arr.al' Eh _) hb2
  have Es := Arr.to' As hb1
  have ls_v6 := Es.lt
  have Bs := Arr.to' (Arr.al' Es _) hb2
  have Br := (Arr.mk4 (w := (v6.alloc (.cells #[.int .u64 0, .int .u64 0, .int .u64 0, .int .u64 0] 24))) (f := fun _ => .int .u64 0) (b := v6.heap.size) (by simp [go_sem]) (by simp [go_sem]) (by simp [go_sem]) (by simp [go_sem]) (by simp [go_sem]) (by simp [go_sem]) (by simp [go_sem]) (by simp [go_sem])).below hb2 (by go_size)
  have lB_v6 := (Bel.call hB hb1).size
  have hB' := Bel.call (Bel.al (Bel.call hB hb1) _) hb2
  clear hb1 hb2 Ea Eb Eo Ep Eq Eu Eh Es Aa Ab Ao Ap Aq Au Ah As hB
  have Aa := Ba
  have Ab := Bb
  have Ao := Bo
  have Ap := Bp
  have Aq := Bq
  have Au := Bu
  have Ah := Bh
  have As := Bs
  have Ar := Br
  have hB := hB'
  clear Ba Bb Bo Bp Bq Bu Bh Bs Br hB'
  have cr := Ar.c
  have zr := Ar.z
  have Ba := Arr.st4o (b' := v6.heap.size) Aa (by have := Aa.lt; have := Ar.lt; omega) (r)
  have Bb := Arr.st4o (b' := v6.heap.size) Ab (by have := Ab.lt; have := Ar.lt; omega) (r)
  have Bo := Arr.st4o (b' := v6.heap.size) Ao (by have := Ao.lt; have := Ar.lt; omega) (r)
  have Bp := Arr.st4o (b' := v6.heap.size) Ap (by have := Ap.lt; have := Ar.lt; omega) (r)
  have Bq := Arr.st4o (b' := v6.heap.size) Aq (by have := Aq.lt; have := Ar.lt; omega) (r)
  have Bu := Arr.st4o (b' := v6.heap.size) Au (by have := Au.lt; have := Ar.lt; omega) (r)
  have Bh := Arr.st4o (b' := v6.heap.size) Ah (by have := Ah.lt; have := Ar.lt; omega) (r)
  have Bs := Arr.st4o (b' := v6.heap.size) As (by have := As.lt; have := Ar.lt; omega) (r)
  have Br := Arr.st4 Ar (r)
  have hB' := Bel.st4 hB (b := v6.heap.size) (by have := hB.size; omega) (r)
  clear Aa Ab Ao Ap Aq Au Ah As Ar hB
  have Aa := Ba
  have Ab := Bb
  have Ao := Bo
  have Ap := Bp
  have Aq := Bq
  have Au := Bu
  have Ah := Bh
  have As := Bs
  have Ar := Br
  have hB := hB'
  clear Ba Bb Bo Bp Bq Bu Bh Bs Br hB'
  have ch := Ah.c
  have cr := Ar.c
  have hS := hB.size
  have co_0 := Ao.cv 0 (by omega) (.int .u64 0) rfl
  have co_1 := Ao.cv 1 (by omega) (.int .u64 0) rfl
  have co_2 := Ao.cv 2 (by omega) (.int .u64 0) rfl
  have co_3 := Ao.cv 3 (by omega) (.int .u64 0) rfl
  have co_4 := Ao.cv 4 (by omega) (.int .u64 0) rfl
  have co_5 := Ao.cv 5 (by omega) (.int .u64 0) rfl
  have co_6 := Ao.cv 6 (by omega) (.int .u64 0) rfl
  have co_7 := Ao.cv 7 (by omega) (.int .u64 0) rfl
  have co_8 := Ao.cv 8 (by omega) (.int .u64 0) rfl
  have co_9 := Ao.cv 9 (by omega) (.int .u64 0) rfl
  have co_10 := Ao.cv 10 (by omega) (.int .u64 0) rfl
  have co_11 := Ao.cv 11 (by omega) (.int .u64 0) rfl
  have zo := Ao.z
  go_wp2_with fail
  refine bodyPost_ret (v := .agg #[.int .u64 1, .int .u64 0, .int .u64 0, .int .u64 0, .int .u64 1, .int .u64 0, .int .u64 0, .int .u64 0, .int .u64 0, .int .u64 0, .int .u64 0, .int .u64 0]) (by simp [results, Tryz.results76, go_sem, co_0, co_1, co_2, co_3, co_4, co_5, co_6, co_7, co_8, co_9, co_10, co_11]) rfl ⟨rfl, ?_⟩
  go_grown
end Go.Proofs.YtoolbnbfbegjaaaGreat
