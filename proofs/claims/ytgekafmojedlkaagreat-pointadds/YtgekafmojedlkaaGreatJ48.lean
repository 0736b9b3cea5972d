/- The reference's triples: plus. -/
import Derived.Test.YtgekafmojedlkaaGreatJ42
set_option linter.all false
set_option maxRecDepth 100000
namespace Go.Proofs.YtgekafmojedlkaaGreat
open Go.RowKit Go.Sort
attribute [local go_sem] eq24
set_option maxHeartbeats 8000000 in
theorem rplus_core (x1 y1 z1 x2 y2 z2 za zb u k1 h k2 s k3 k4 r h2 h3 v rr e1 v2 X f1 f2 f3 Y zc Z : Int) (g1 : (lim z1 0 == 0 && (lim z1 1 == 0 && (lim z1 2 == 0 && lim z1 3 == 0))) = false) (g2 : (lim z2 0 == 0 && (lim z2 1 == 0 && (lim z2 2 == 0 && lim z2 3 == 0))) = false) (hh : (lim h 0 == 0 && (lim h 1 == 0 && (lim h 2 == 0 && lim h 3 == 0))) = false) (w : World)
    (C1 : ∀ W, Calls Tryz.prog 15 #[nv z1, nv z1] W fun e w' => e = .returned (nv za) ∧ Below W.heap.size W w')
    (C2 : ∀ W, Calls Tryz.prog 15 #[nv z2, nv z2] W fun e w' => e = .returned (nv zb) ∧ Below W.heap.size W w')
    (C3 : ∀ W, Calls Tryz.prog 15 #[nv x1, nv zb] W fun e w' => e = .returned (nv u) ∧ Below W.heap.size W w')
    (C4 : ∀ W, Calls Tryz.prog 15 #[nv x2, nv za] W fun e w' => e = .returned (nv k1) ∧ Below W.heap.size W w')
    (C5 : ∀ W, Calls Tryz.prog 16 #[nv k1, nv u] W fun e w' => e = .returned (nv h) ∧ Below W.heap.size W w')
    (C6 : ∀ W, Calls Tryz.prog 15 #[nv zb, nv z2] W fun e w' => e = .returned (nv k2) ∧ Below W.heap.size W w')
    (C7 : ∀ W, Calls Tryz.prog 15 #[nv y1, nv k2] W fun e w' => e = .returned (nv s) ∧ Below W.heap.size W w')
    (C8 : ∀ W, Calls Tryz.prog 15 #[nv za, nv z1] W fun e w' => e = .returned (nv k3) ∧ Below W.heap.size W w')
    (C9 : ∀ W, Calls Tryz.prog 15 #[nv y2, nv k3] W fun e w' => e = .returned (nv k4) ∧ Below W.heap.size W w')
    (C10 : ∀ W, Calls Tryz.prog 16 #[nv k4, nv s] W fun e w' => e = .returned (nv r) ∧ Below W.heap.size W w')
    (C11 : ∀ W, Calls Tryz.prog 15 #[nv h, nv h] W fun e w' => e = .returned (nv h2) ∧ Below W.heap.size W w')
    (C12 : ∀ W, Calls Tryz.prog 15 #[nv h, nv h2] W fun e w' => e = .returned (nv h3) ∧ Below W.heap.size W w')
    (C13 : ∀ W, Calls Tryz.prog 15 #[nv u, nv h2] W fun e w' => e = .returned (nv v) ∧ Below W.heap.size W w')
    (C14 : ∀ W, Calls Tryz.prog 15 #[nv r, nv r] W fun e w' => e = .returned (nv rr) ∧ Below W.heap.size W w')
    (C15 : ∀ W, Calls Tryz.prog 16 #[nv rr, nv h3] W fun e w' => e = .returned (nv e1) ∧ Below W.heap.size W w')
    (C16 : ∀ W, Calls Tryz.prog 14 #[nv v, nv v] W fun e w' => e = .returned (nv v2) ∧ Below W.heap.size W w')
    (C17 : ∀ W, Calls Tryz.prog 16 #[nv e1, nv v2] W fun e w' => e = .returned (nv X) ∧ Below W.heap.size W w')
    (C18 : ∀ W, Calls Tryz.prog 16 #[nv v, nv X] W fun e w' => e = .returned (nv f1) ∧ Below W.heap.size W w')
    (C19 : ∀ W, Calls Tryz.prog 15 #[nv r, nv f1] W fun e w' => e = .returned (nv f2) ∧ Below W.heap.size W w')
    (C20 : ∀ W, Calls Tryz.prog 15 #[nv s, nv h3] W fun e w' => e = .returned (nv f3) ∧ Below W.heap.size W w')
    (C21 : ∀ W, Calls Tryz.prog 16 #[nv f2, nv f3] W fun e w' => e = .returned (nv Y) ∧ Below W.heap.size W w')
    (C22 : ∀ W, Calls Tryz.prog 15 #[nv z1, nv z2] W fun e w' => e = .returned (nv zc) ∧ Below W.heap.size W w')
    (C23 : ∀ W, Calls Tryz.prog 15 #[nv h, nv zc] W fun e w' => e = .returned (nv Z) ∧ Below W.heap.size W w') :
    Calls Tryz.prog 33 #[tv x1 y1 z1, tv x2 y2 z2] w fun e w' => e = .returned (tv X Y Z) ∧ Below w.heap.size w w' := by
  go_enter Tryz.func33, Tryz.ntmps33
  have Ba : Arr ((((w.alloc (.cells #[.int .u64 (lim (x1) 0), .int .u64 (lim (x1) 1), .int .u64 (lim (x1) 2), .int .u64 (lim (x1) 3), .int .u64 (lim (y1) 0), .int .u64 (lim (y1) 1), .int .u64 (lim (y1) 2), .int .u64 (lim (y1) 3), .int .u64 (lim (z1) 0), .int .u64 (lim (z1) 1), .int .u64 (lim (z1) 2), .int .u64 (lim (z1) 3)] 49)).alloc (.cells #[.int .u64 (lim (x2) 0), .int .u64 (lim (x2) 1), .int .u64 (lim (x2) 2), .int .u64 (lim (x2) 3), .int .u64 (lim (y2) 0), .int .u64 (lim (y2) 1), .int .u64 (lim (y2) 2), .int .u64 (lim (y2) 3), .int .u64 (lim (z2) 0), .int .u64 (lim (z2) 1), .int .u64 (lim (z2) 2), .int .u64 (lim (z2) 3)] 49)).alloc (.cells #[.int .u64 0, .int .u64 0, .int .u64 0, .int .u64 0, .int .u64 0, .int .u64 0, .int .u64 0, .int .u64 0, .int .u64 0, .int .u64 0, .int .u64 0, .int .u64 0] 49))) (w.heap.size) 12 (trx (x1) (y1) (z1)) := by refine Arr.mk12 ?_ ?_ ?_ ?_ ?_ ?_ ?_ ?_ ?_ ?_ ?_ ?_ ?_ <;> simp [go_sem, px, sx, zx, trx, trz]
  have Bb : Arr ((((w.alloc (.cells #[.int .u64 (lim (x1) 0), .int .u64 (lim (x1) 1), .int .u64 (lim (x1) 2), .int .u64 (lim (x1) 3), .int .u64 (lim (y1) 0), .int .u64 (lim (y1) 1), .int .u64 (lim (y1) 2), .int .u64 (lim (y1) 3), .int .u64 (lim (z1) 0), .int .u64 (lim (z1) 1), .int .u64 (lim (z1) 2), .int .u64 (lim (z1) 3)] 49)).alloc (.cells #[.int .u64 (lim (x2) 0), .int .u64 (lim (x2) 1), .int .u64 (lim (x2) 2), .int .u64 (lim (x2) 3), .int .u64 (lim (y2) 0), .int .u64 (lim (y2) 1), .int .u64 (lim (y2) 2), .int .u64 (lim (y2) 3), .int .u64 (lim (z2) 0), .int .u64 (lim (z2) 1), .int .u64 (lim (z2) 2), .int .u64 (lim (z2) 3)] 49)).alloc (.cells #[.int .u64 0, .int .u64 0, .int .u64 0, .int .u64 0, .int .u64 0, .int .u64 0, .int .u64 0, .int .u64 0, .int .u64 0, .int .u64 0, .int .u64 0, .int .u64 0] 49))) (w.heap.size + 1) 12 (trx (x2) (y2) (z2)) := by refine Arr.mk12 ?_ ?_ ?_ ?_ ?_ ?_ ?_ ?_ ?_ ?_ ?_ ?_ ?_ <;> simp [go_sem, px, sx, zx, trx, trz]
  have Bo : Arr ((((w.alloc (.cells #[.int .u64 (lim (x1) 0), .int .u64 (lim (x1) 1), .int .u64 (lim (x1) 2), .int .u64 (lim (x1) 3), .int .u64 (lim (y1) 0), .int .u64 (lim (y1) 1), .int .u64 (lim (y1) 2), .int .u64 (lim (y1) 3), .int .u64 (lim (z1) 0), .int .u64 (lim (z1) 1), .int .u64 (lim (z1) 2), .int .u64 (lim (z1) 3)] 49)).alloc (.cells #[.int .u64 (lim (x2) 0), .int .u64 (lim (x2) 1), .int .u64 (lim (x2) 2), .int .u64 (lim (x2) 3), .int .u64 (lim (y2) 0), .int .u64 (lim (y2) 1), .int .u64 (lim (y2) 2), .int .u64 (lim (y2) 3), .int .u64 (lim (z2) 0), .int .u64 (lim (z2) 1), .int .u64 (lim (z2) 2), .int .u64 (lim (z2) 3)] 49)).alloc (.cells #[.int .u64 0, .int .u64 0, .int .u64 0, .int .u64 0, .int .u64 0, .int .u64 0, .int .u64 0, .int .u64 0, .int .u64 0, .int .u64 0, .int .u64 0, .int .u64 0] 49))) (w.heap.size + 1 + 1) 12 (trz) := by refine Arr.mk12 ?_ ?_ ?_ ?_ ?_ ?_ ?_ ?_ ?_ ?_ ?_ ?_ ?_ <;> simp [go_sem, px, sx, zx, trx, trz]
  have hB' : Below w.heap.size w (((w.alloc (.cells #[.int .u64 (lim (x1) 0), .int .u64 (lim (x1) 1), .int .u64 (lim (x1) 2), .int .u64 (lim (x1) 3), .int .u64 (lim (y1) 0), .int .u64 (lim (y1) 1), .int .u64 (lim (y1) 2), .int .u64 (lim (y1) 3), .int .u64 (lim (z1) 0), .int .u64 (lim (z1) 1), .int .u64 (lim (z1) 2), .int .u64 (lim (z1) 3)] 49)).alloc (.cells #[.int .u64 (lim (x2) 0), .int .u64 (lim (x2) 1), .int .u64 (lim (x2) 2), .int .u64 (lim (x2) 3), .int .u64 (lim (y2) 0), .int .u64 (lim (y2) 1), .int .u64 (lim (y2) 2), .int .u64 (lim (y2) 3), .int .u64 (lim (z2) 0), .int .u64 (lim (z2) 1), .int .u64 (lim (z2) 2), .int .u64 (lim (z2) 3)] 49)).alloc (.cells #[.int .u64 0, .int .u64 0, .int .u64 0, .int .u64 0, .int .u64 0, .int .u64 0, .int .u64 0, .int .u64 0, .int .u64 0, .int .u64 0, .int .u64 0, .int .u64 0] 49)) := by go_grown
  have Aa := Ba
  have Ab := Bb
  have Ao := Bo
  have hB := hB'
  clear Ba Bb Bo hB'
  have ca_0 := Aa.cv 0 (by omega) (.int .u64 (lim (x1) 0)) rfl
  have ca_1 := Aa.cv 1 (by omega) (.int .u64 (lim (x1) 1)) rfl
  have ca_2 := Aa.cv 2 (by omega) (.int .u64 (lim (x1) 2)) rfl
  have ca_3 := Aa.cv 3 (by omega) (.int .u64 (lim (x1) 3)) rfl
  have ca_4 := Aa.cv 4 (by omega) (.int .u64 (lim (y1) 0)) rfl
  have ca_5 := Aa.cv 5 (by omega) (.int .u64 (lim (y1) 1)) rfl
  have ca_6 := Aa.cv 6 (by omega) (.int .u64 (lim (y1) 2)) rfl
  have ca_7 := Aa.cv 7 (by omega) (.int .u64 (lim (y1) 3)) rfl
  have ca_8 := Aa.cv 8 (by omega) (.int .u64 (lim (z1) 0)) rfl
  have ca_9 := Aa.cv 9 (by omega) (.int .u64 (lim (z1) 1)) rfl
  have ca_10 := Aa.cv 10 (by omega) (.int .u64 (lim (z1) 2)) rfl
  have ca_11 := Aa.cv 11 (by omega) (.int .u64 (lim (z1) 3)) rfl
  have cb_0 := Ab.cv 0 (by omega) (.int .u64 (lim (x2) 0)) rfl
  have cb_1 := Ab.cv 1 (by omega) (.int .u64 (lim (x2) 1)) rfl
  have cb_2 := Ab.cv 2 (by omega) (.int .u64 (lim (x2) 2)) rfl
  have cb_3 := Ab.cv 3 (by omega) (.int .u64 (lim (x2) 3)) rfl
  have cb_4 := Ab.cv 4 (by omega) (.int .u64 (lim (y2) 0)) rfl
  have cb_5 := Ab.cv 5 (by omega) (.int .u64 (lim (y2) 1)) rfl
  have cb_6 := Ab.cv 6 (by omega) (.int .u64 (lim (y2) 2)) rfl
  have cb_7 := Ab.cv 7 (by omega) (.int .u64 (lim (y2) 3)) rfl
  have cb_8 := Ab.cv 8 (by omega) (.int .u64 (lim (z2) 0)) rfl
  have cb_9 := Ab.cv 9 (by omega) (.int .u64 (lim (z2) 1)) rfl
  have cb_10 := Ab.cv 10 (by omega) (.int .u64 (lim (z2) 2)) rfl
  have cb_11 := Ab.cv 11 (by omega) (.int .u64 (lim (z2) 3)) rfl
  go_wp2_with fail
  refine (C1 _).mono ?_
  rintro e w11 ⟨rfl, hb⟩
  have Ba := Arr.to' Aa hb
  have Bb := Arr.to' Ab hb
  have Bo := Arr.to' Ao hb
  have hB' := Bel.call hB hb
  clear hb ca_0 ca_1 ca_2 ca_3 ca_4 ca_5 ca_6 ca_7 ca_8 ca_9 ca_10 ca_11 cb_0 cb_1 cb_2 cb_3 cb_4 cb_5 cb_6 cb_7 cb_8 cb_9 cb_10 cb_11 Aa Ab Ao hB
  have Aa := Ba
  have Ab := Bb
  have Ao := Bo
  have hB := hB'
  clear Ba Bb Bo hB'
  have la_2 := Aa.lt
  have lb_2 := Ab.lt
  have lo_2 := Ao.lt
  have lB_2 := hB.size
  have Ba := (Arr.al' Aa (.cells #[.int .u64 (lim (za) 0), .int .u64 (lim (za) 1), .int .u64 (lim (za) 2), .int .u64 (lim (za) 3)] 24))
  have Bb := (Arr.al' Ab (.cells #[.int .u64 (lim (za) 0), .int .u64 (lim (za) 1), .int .u64 (lim (za) 2), .int .u64 (lim (za) 3)] 24))
  have Bo := (Arr.al' Ao (.cells #[.int .u64 (lim (za) 0), .int .u64 (lim (za) 1), .int .u64 (lim (za) 2), .int .u64 (lim (za) 3)] 24))
  have Bp : Arr ((w11.alloc (.cells #[.int .u64 (lim (za) 0), .int .u64 (lim (za) 1), .int .u64 (lim (za) 2), .int .u64 (lim (za) 3)] 24))) (w11.heap.size) 4 (fun j => .int .u64 (lim (za) j)) := by refine Arr.mk4 ?_ ?_ ?_ ?_ ?_ ?_ ?_ ?_ <;> simp [go_sem]
  have hB' := (Bel.al hB (.cells #[.int .u64 (lim (za) 0), .int .u64 (lim (za) 1), .int .u64 (lim (za) 2), .int .u64 (lim (za) 3)] 24))
  clear Aa Ab Ao hB
  have Aa := Ba
  have Ab := Bb
  have Ao := Bo
  have Ap := Bp
  have hB := hB'
  clear Ba Bb Bo Bp hB'
  have cb_0 := Ab.cv 0 (by omega) (.int .u64 (lim (x2) 0)) rfl
  have cb_1 := Ab.cv 1 (by omega) (.int .u64 (lim (x2) 1)) rfl
  have cb_2 := Ab.cv 2 (by omega) (.int .u64 (lim (x2) 2)) rfl
  have cb_3 := Ab.cv 3 (by omega) (.int .u64 (lim (x2) 3)) rfl
  have cb_4 := Ab.cv 4 (by omega) (.int .u64 (lim (y2) 0)) rfl
  have cb_5 := Ab.cv 5 (by omega) (.int .u64 (lim (y2) 1)) rfl
  have cb_6 := Ab.cv 6 (by omega) (.int .u64 (lim (y2) 2)) rfl
  have cb_7 := Ab.cv 7 (by omega) (.int .u64 (lim (y2) 3)) rfl
  have cb_8 := Ab.cv 8 (by omega) (.int .u64 (lim (z2) 0)) rfl
  have cb_9 := Ab.cv 9 (by omega) (.int .u64 (lim (z2) 1)) rfl
  have cb_10 := Ab.cv 10 (by omega) (.int .u64 (lim (z2) 2)) rfl
  have cb_11 := Ab.cv 11 (by omega) (.int .u64 (lim (z2) 3)) rfl
  go_wp2_with fail
  refine (C2 _).mono ?_
  rintro e w2 ⟨rfl, hb⟩
  have Ba := Arr.to' Aa hb
  have Bb := Arr.to' Ab hb
  have Bo := Arr.to' Ao hb
  have Bp := Arr.to' Ap hb
  have hB' := Bel.call hB hb
  clear hb cb_0 cb_1 cb_2 cb_3 cb_4 cb_5 cb_6 cb_7 cb_8 cb_9 cb_10 cb_11 Aa Ab Ao Ap hB
  have Aa := Ba
  have Ab := Bb
  have Ao := Bo
  have Ap := Bp
  have hB := hB'
  clear Ba Bb Bo Bp hB'
  have la_3 := Aa.lt
  have lb_3 := Ab.lt
  have lo_3 := Ao.lt
  have lp_3 := Ap.lt
  have lB_3 := hB.size
  have Ba := (Arr.al' Aa (.cells #[.int .u64 (lim (zb) 0), .int .u64 (lim (zb) 1), .int .u64 (lim (zb) 2), .int .u64 (lim (zb) 3)] 24))
  have Bb := (Arr.al' Ab (.cells #[.int .u64 (lim (zb) 0), .int .u64 (lim (zb) 1), .int .u64 (lim (zb) 2), .int .u64 (lim (zb) 3)] 24))
  have Bo := (Arr.al' Ao (.cells #[.int .u64 (lim (zb) 0), .int .u64 (lim (zb) 1), .int .u64 (lim (zb) 2), .int .u64 (lim (zb) 3)] 24))
  have Bp := (Arr.al' Ap (.cells #[.int .u64 (lim (zb) 0), .int .u64 (lim (zb) 1), .int .u64 (lim (zb) 2), .int .u64 (lim (zb) 3)] 24))
  have Bq : Arr ((w2.alloc (.cells #[.int .u64 (lim (zb) 0), .int .u64 (lim (zb) 1), .int .u64 (lim (zb) 2), .int .u64 (lim (zb) 3)] 24))) (w2.heap.size) 4 (fun j => .int .u64 (lim (zb) j)) := by refine Arr.mk4 ?_ ?_ ?_ ?_ ?_ ?_ ?_ ?_ <;> simp [go_sem]
  have hB' := (Bel.al hB (.cells #[.int .u64 (lim (zb) 0), .int .u64 (lim (zb) 1), .int .u64 (lim (zb) 2), .int .u64 (lim (zb) 3)] 24))
  clear Aa Ab Ao Ap hB
  have Aa := Ba
  have Ab := Bb
  have Ao := Bo
  have Ap := Bp
  have Aq := Bq
  have hB := hB'
  clear Ba Bb Bo Bp Bq hB'
  have ca_0 := Aa.cv 0 (by omega) (.int .u64 (lim (x1) 0)) rfl
  have ca_1 := Aa.cv 1 (by omega) (.int .u64 (lim (x1) 1)) rfl
  have ca_2 := Aa.cv 2 (by omega) (.int .u64 (lim (x1) 2)) rfl
  have ca_3 := Aa.cv 3 (by omega) (.int .u64 (lim (x1) 3)) rfl
  have ca_4 := Aa.cv 4 (by omega) (.int .u64 (lim (y1) 0)) rfl
  have ca_5 := Aa.cv 5 (by omega) (.int .u64 (lim (y1) 1)) rfl
  have ca_6 := Aa.cv 6 (by omega) (.int .u64 (lim (y1) 2)) rfl
  have ca_7 := Aa.cv 7 (by omega) (.int .u64 (lim (y1) 3)) rfl
  have ca_8 := Aa.cv 8 (by omega) (.int .u64 (lim (z1) 0)) rfl
  have ca_9 := Aa.cv 9 (by omega) (.int .u64 (lim (z1) 1)) rfl
  have ca_10 := Aa.cv 10 (by omega) (.int .u64 (lim (z1) 2)) rfl
  have ca_11 := Aa.cv 11 (by omega) (.int .u64 (lim (z1) 3)) rfl
  have cq := Aq.c
  go_wp2_with fail
  refine (C3 _).mono ?_
  rintro e w3 ⟨rfl, hb⟩
  have Ba := Arr.to' Aa hb
  have Bb := Arr.to' Ab hb
  have Bo := Arr.to' Ao hb
  have Bp := Arr.to' Ap hb
  have Bq := Arr.to' Aq hb
  have hB' := Bel.call hB hb
  clear hb ca_0 ca_1 ca_2 ca_3 ca_4 ca_5 ca_6 ca_7 ca_8 ca_9 ca_10 ca_11 cq Aa Ab Ao Ap Aq hB
  have Aa := Ba
  have Ab := Bb
  have Ao := Bo
  have Ap := Bp
  have Aq := Bq
  have hB := hB'
  clear Ba Bb Bo Bp Bq hB'
  have la_4 := Aa.lt
  have lb_4 := Ab.lt
  have lo_4 := Ao.lt
  have lp_4 := Ap.lt
  have lq_4 := Aq.lt
  have lB_4 := hB.size
  have Ba := (Arr.al' Aa (.cells #[.int .u64 (lim (u) 0), .int .u64 (lim (u) 1), .int .u64 (lim (u) 2), .int .u64 (lim (u) 3)] 24))
  have Bb := (Arr.al' Ab (.cells #[.int .u64 (lim (u) 0), .int .u64 (lim (u) 1), .int .u64 (lim (u) 2), .int .u64 (lim (u) 3)] 24))
  have Bo := (Arr.al' Ao (.cells #[.int .u64 (lim (u) 0), .int .u64 (lim (u) 1), .int .u64 (lim (u) 2), .int .u64 (lim (u) 3)] 24))
  have Bp := (Arr.al' Ap (.cells #[.int .u64 (lim (u) 0), .int .u64 (lim (u) 1), .int .u64 (lim (u) 2), .int .u64 (lim (u) 3)] 24))
  have Bq := (Arr.al' Aq (.cells #[.int .u64 (lim (u) 0), .int .u64 (lim (u) 1), .int .u64 (lim (u) 2), .int .u64 (lim (u) 3)] 24))
  have Bu : Arr ((w3.alloc (.cells #[.int .u64 (lim (u) 0), .int .u64 (lim (u) 1), .int .u64 (lim (u) 2), .int .u64 (lim (u) 3)] 24))) (w3.heap.size) 4 (fun j => .int .u64 (lim (u) j)) := by refine Arr.mk4 ?_ ?_ ?_ ?_ ?_ ?_ ?_ ?_ <;> simp [go_sem]
  have hB' := (Bel.al hB (.cells #[.int .u64 (lim (u) 0), .int .u64 (lim (u) 1), .int .u64 (lim (u) 2), .int .u64 (lim (u) 3)] 24))
  clear Aa Ab Ao Ap Aq hB
  have Aa := Ba
  have Ab := Bb
  have Ao := Bo
  have Ap := Bp
  have Aq := Bq
  have Au := Bu
  have hB := hB'
  clear Ba Bb Bo Bp Bq Bu hB'
  go_wp2_with fail
  apply wp_region_alloc_tail 6 (by kernel_rfl) (by kernel_rfl) (by kernel_rfl) (.cells #[.int .u64 0, .int .u64 0, .int .u64 0, .int .u64 0] 24) _ rfl (fun _ _ => by simp [go_sem])
  · intro W hW
    have rb0 := (Arr.to' Ab hW).cg 0 (by omega) (.int .u64 (lim (x2) 0)) rfl
    have rb1 := (Arr.to' Ab hW).cg 1 (by omega) (.int .u64 (lim (x2) 1)) rfl
    have rb2 := (Arr.to' Ab hW).cg 2 (by omega) (.int .u64 (lim (x2) 2)) rfl
    have rb3 := (Arr.to' Ab hW).cg 3 (by omega) (.int .u64 (lim (x2) 3)) rfl
    have rb4 := (Arr.to' Ab hW).cg 4 (by omega) (.int .u64 (lim (y2) 0)) rfl
    have rb5 := (Arr.to' Ab hW).cg 5 (by omega) (.int .u64 (lim (y2) 1)) rfl
    have rb6 := (Arr.to' Ab hW).cg 6 (by omega) (.int .u64 (lim (y2) 2)) rfl
    have rb7 := (Arr.to' Ab hW).cg 7 (by omega) (.int .u64 (lim (y2) 3)) rfl
    have rb8 := (Arr.to' Ab hW).cg 8 (by omega) (.int .u64 (lim (z2) 0)) rfl
    have rb9 := (Arr.to' Ab hW).cg 9 (by omega) (.int .u64 (lim (z2) 1)) rfl
    have rb10 := (Arr.to' Ab hW).cg 10 (by omega) (.int .u64 (lim (z2) 2)) rfl
    have rb11 := (Arr.to' Ab hW).cg 11 (by omega) (.int .u64 (lim (z2) 3)) rfl
    have rp0 := fun ds os => cell_regrown ((Arr.to' Ap hW).c 0 (by omega)) ds os
    have rp1 := fun ds os => cell_regrown ((Arr.to' Ap hW).c 1 (by omega)) ds os
    have rp2 := fun ds os => cell_regrown ((Arr.to' Ap hW).c 2 (by omega)) ds os
    have rp3 := fun ds os => cell_regrown ((Arr.to' Ap hW).c 3 (by omega)) ds os
    have ru0 := fun ds os => cell_regrown ((Arr.to' Au hW).c 0 (by omega)) ds os
    have ru1 := fun ds os => cell_regrown ((Arr.to' Au hW).c 1 (by omega)) ds os
    have ru2 := fun ds os => cell_regrown ((Arr.to' Au hW).c 2 (by omega)) ds os
    have ru3 := fun ds os => cell_regrown ((Arr.to' Au hW).c 3 (by omega)) ds os
    simp only [List.take_succ_cons, List.take_zero]
    repeat (go_big_quiet_step (first | (go_at_call 15; with_reducible first | exact Calls.regrown_of (C4 _)) | (go_at_call 16; with_reducible first | exact Calls.regrown_of (C5 _))))
    exact wpQuiet_nil rfl
  intro v4 w14 hb1 hb2
  simp only [List.drop_succ_cons, List.drop_zero, Act.put, List.setIfInBounds_toArray, List.set_cons_succ, List.set_cons_zero]
  have Ea := Arr.to' Aa hb1
  have la_v4 := Ea.lt
  have Ba := Arr.to' (Arr.al' Ea (.cells #[.int .u64 0, .int .u64 0, .int .u64 0, .int .u64 0] 24)) hb2
  have Eb := Arr.to' Ab hb1
  have lb_v4 := Eb.lt
  have Bb := Arr.to' (Arr.al' Eb (.cells #[.int .u64 0, .int .u64 0, .int .u64 0, .int .u64 0] 24)) hb2
  have Eo := Arr.to' Ao hb1
  have lo_v4 := Eo.lt
  have Bo := Arr.to' (Arr.al' Eo (.cells #[.int .u64 0, .int .u64 0, .int .u64 0, .int .u64 0] 24)) hb2
  have Ep := Arr.to' Ap hb1
  have lp_v4 := Ep.lt
  have Bp := Arr.to' (Arr.al' Ep (.cells #[.int .u64 0, .int .u64 0, .int .u64 0, .int .u64 0] 24)) hb2
  have Eq := Arr.to' Aq hb1
  have lq_v4 := Eq.lt
  have Bq := Arr.to' (Arr.al' Eq (.cells #[.int .u64 0, .int .u64 0, .int .u64 0, .int .u64 0] 24)) hb2
  have Eu := Arr.to' Au hb1
  have lu_v4 := Eu.lt
  have Bu := Arr.to' (Arr.al' Eu (.cells #[.int .u64 0, .int .u64 0, .int .u64 0, .int .u64 0] 24)) hb2
  have Bh := (Arr.mk4 (w := (v4.alloc (.cells #[.int .u64 0, .int .u64 0, .int .u64 0, .int .u64 0] 24))) (f := fun _ => .int .u64 0) (b := v4.heap.size) (by simp [go_sem]) (by simp [go_sem]) (by simp [go_sem]) (by simp [go_sem]) (by simp [go_sem]) (by simp [go_sem]) (by simp [go_sem]) (by simp [go_sem])).below hb2 (by go_size)
  have lB_v4 := (Bel.call hB hb1).size
  have hB' := Bel.call (Bel.al (Bel.call hB hb1) (.cells #[.int .u64 0, .int .u64 0, .int .u64 0, .int .u64 0] 24)) hb2
  clear hb1 hb2 Ea Eb Eo Ep Eq Eu Aa Ab Ao Ap Aq Au hB
  have Aa := Ba
  have Ab := Bb
  have Ao := Bo
  have Ap := Bp
  have Aq := Bq
  have Au := Bu
  have Ah := Bh
  have hB := hB'
  clear Ba Bb Bo Bp Bq Bu Bh hB'
  have ch := Ah.c
  have zh := Ah.z
  have Ba := Arr.st4o (b' := v4.heap.size) Aa (by have := Aa.lt; have := Ah.lt; omega) (h)
  have Bb := Arr.st4o (b' := v4.heap.size) Ab (by have := Ab.lt; have := Ah.lt; omega) (h)
  have Bo := Arr.st4o (b' := v4.heap.size) Ao (by have := Ao.lt; have := Ah.lt; omega) (h)
  have Bp := Arr.st4o (b' := v4.heap.size) Ap (by have := Ap.lt; have := Ah.lt; omega) (h)
  have Bq := Arr.st4o (b' := v4.heap.size) Aq (by have := Aq.lt; have := Ah.lt; omega) (h)
  have Bu := Arr.st4o (b' := v4.heap.size) Au (by have := Au.lt; have := Ah.lt; omega) (h)
  have Bh := Arr.st4 Ah (h)
  have hB' := Bel.st4 hB (b := v4.heap.size) (by have := hB.size; omega) (h)
  clear Aa Ab Ao Ap Aq Au Ah hB
  have Aa := Ba
  have Ab := Bb
  have Ao := Bo
  have Ap := Bp
  have Aq := Bq
  have Au := Bu
  have Ah := Bh
  have hB := hB'
  clear Ba Bb Bo Bp Bq Bu Bh hB'
  go_wp2_with fail
  apply wp_region_alloc_tail 7 (by kernel_rfl) (by kernel_rfl) (by kernel_rfl) (.cells #[.int .u64 0, .int .u64 0, .int .u64 0, .int .u64 0] 24) _ rfl (fun _ _ => by simp [go_sem])
  · intro W hW
    have ra0 := (Arr.to' Aa hW).cg 0 (by omega) (.int .u64 (lim (x1) 0)) rfl
    have ra1 := (Arr.to' Aa hW).cg 1 (by omega) (.int .u64 (lim (x1) 1)) rfl
    have ra2 := (Arr.to' Aa hW).cg 2 (by omega) (.int .u64 (lim (x1) 2)) rfl
    have ra3 := (Arr.to' Aa hW).cg 3 (by omega) (.int .u64 (lim (x1) 3)) rfl
    have ra4 := (Arr.to' Aa hW).cg 4 (by omega) (.int .u64 (lim (y1) 0)) rfl
    have ra5 := (Arr.to' Aa hW).cg 5 (by omega) (.int .u64 (lim (y1) 1)) rfl
    have ra6 := (Arr.to' Aa hW).cg 6 (by omega) (.int .u64 (lim (y1) 2)) rfl
    have ra7 := (Arr.to' Aa hW).cg 7 (by omega) (.int .u64 (lim (y1) 3)) rfl
    have ra8 := (Arr.to' Aa hW).cg 8 (by omega) (.int .u64 (lim (z1) 0)) rfl
    have ra9 := (Arr.to' Aa hW).cg 9 (by omega) (.int .u64 (lim (z1) 1)) rfl
    have ra10 := (Arr.to' Aa hW).cg 10 (by omega) (.int .u64 (lim (z1) 2)) rfl
    have ra11 := (Arr.to' Aa hW).cg 11 (by omega) (.int .u64 (lim (z1) 3)) rfl
    have rb0 := (Arr.to' Ab hW).cg 0 (by omega) (.int .u64 (lim (x2) 0)) rfl
    have rb1 := (Arr.to' Ab hW).cg 1 (by omega) (.int .u64 (lim (x2) 1)) rfl
    have rb2 := (Arr.to' Ab hW).cg 2 (by omega) (.int .u64 (lim (x2) 2)) rfl
    have rb3 := (Arr.to' Ab hW).cg 3 (by omega) (.int .u64 (lim (x2) 3)) rfl
    have rb4 := (Arr.to' Ab hW).cg 4 (by omega) (.int .u64 (lim (y2) 0)) rfl
    have rb5 := (Arr.to' Ab hW).cg 5 (by omega) (.int .u64 (lim (y2) 1)) rfl
    have rb6 := (Arr.to' Ab hW).cg 6 (by omega) (.int .u64 (lim (y2) 2)) rfl
    have rb7 := (Arr.to' Ab hW).cg 7 (by omega) (.int .u64 (lim (y2) 3)) rfl
    have rb8 := (Arr.to' Ab hW).cg 8 (by omega) (.int .u64 (lim (z2) 0)) rfl
    have rb9 := (Arr.to' Ab hW).cg 9 (by omega) (.int .u64 (lim (z2) 1)) rfl
    have rb10 := (Arr.to' Ab hW).cg 10 (by omega) (.int .u64 (lim (z2) 2)) rfl
    have rb11 := (Arr.to' Ab hW).cg 11 (by omega) (.int .u64 (lim (z2) 3)) rfl
    have rq0 := fun ds os => cell_regrown ((Arr.to' Aq hW).c 0 (by omega)) ds os
    have rq1 := fun ds os => cell_regrown ((Arr.to' Aq hW).c 1 (by omega)) ds os
    have rq2 := fun ds os => cell_regrown ((Arr.to' Aq hW).c 2 (by omega)) ds os
    have rq3 := fun ds os => cell_regrown ((Arr.to' Aq hW).c 3 (by omega)) ds os
    simp only [List.take_succ_cons, List.take_zero]
    repeat (go_big_quiet_step (first | (go_at_call 15; with_reducible first | exact Calls.regrown_of (C6 _) | exact Calls.regrown_of (C7 _))))
    exact wpQuiet_nil rfl
  intro v5 w15 hb1 hb2
  simp only [List.drop_succ_cons, List.drop_zero, Act.put, List.setIfInBounds_toArray, List.set_cons_succ, List.set_cons_zero]
  have Ea := Arr.to' Aa hb1
  have la_v5 := Ea.lt
  have Ba := Arr.to' (Arr.al' Ea (.cells #[.int .u64 0, .int .u64 0, .int .u64 0, .int .u64 0] 24)) hb2
  have Eb := Arr.to' Ab hb1
  have lb_v5 := Eb.lt
  have Bb := Arr.to' (Arr.al' Eb (.cells #[.int .u64 0, .int .u64 0, .int .u64 0, .int .u64 0] 24)) hb2
  have Eo := Arr.to' Ao hb1
  have lo_v5 := Eo.lt
  have Bo := Arr.to' (Arr.al' Eo (.cells #[.int .u64 0, .int .u64 0, .int .u64 0, .int .u64 0] 24)) hb2
  have Ep := Arr.to' Ap hb1
  have lp_v5 := Ep.lt
  have Bp := Arr.to' (Arr.al' Ep (.cells #[.int .u64 0, .int .u64 0, .int .u64 0, .int .u64 0] 24)) hb2
  have Eq := Arr.to' Aq hb1
  have lq_v5 := Eq.lt
  have Bq := Arr.to' (Arr.al' Eq (.cells #[.int .u64 0, .int .u64 0, .int .u64 0, .int .u64 0] 24)) hb2
  have Eu := Arr.to' Au hb1
  have lu_v5 := Eu.lt
  have Bu := Arr.to' (Arr.al' Eu (.cells #[.int .u64 0, .int .u64 0, .int .u64 0, .int .u64 0] 24)) hb2
  have Eh := Arr.to' Ah hb1
  have lh_v5 := Eh.lt
  have Bh := Arr.to' (Arr.al' Eh (.cells #[.int .u64 0, .int .u64 0, .int .u64 0, .int .u64 0] 24)) hb2
  have Bs := (Arr.mk4 (w := (v5.alloc (.cells #[.int .u64 0, .int .u64 0, .int .u64 0, .int .u64 0] 24))) (f := fun _ => .int .u64 0) (b := v5.heap.size) (by simp [go_sem]) (by simp [go_sem]) (by simp [go_sem]) (by simp [go_sem]) (by simp [go_sem]) (by simp [go_sem]) (by simp [go_sem]) (by simp [go_sem])).below hb2 (by go_size)
  have lB_v5 := (Bel.call hB hb1).size
  have hB' := Bel.call (Bel.al (Bel.call hB hb1) (.cells #[.int .u64 0, .int .u64 0, .int .u64 0, .int .u64 0] 24)) hb2
  clear hb1 hb2 Ea Eb Eo Ep Eq Eu Eh Aa Ab Ao Ap Aq Au Ah hB
  have Aa := Ba
  have Ab := Bb
  have Ao := Bo
  have Ap := Bp
  have Aq := Bq
  have Au := Bu
  have Ah := Bh
  have As := Bs
  have hB := hB'
  clear Ba Bb Bo Bp Bq Bu Bh Bs hB'
  have cs := As.c
  have zs := As.z
  have Ba := Arr.st4o (b' := v5.heap.size) Aa (by have := Aa.lt; have := As.lt; omega) (s)
  have Bb := Arr.st4o (b' := v5.heap.size) Ab (by have := Ab.lt; have := As.lt; omega) (s)
  have Bo := Arr.st4o (b' := v5.heap.size) Ao (by have := Ao.lt; have := As.lt; omega) (s)
  have Bp := Arr.st4o (b' := v5.heap.size) Ap (by have := Ap.lt; have := As.lt; omega) (s)
  have Bq := Arr.st4o (b' := v5.heap.size) Aq (by have := Aq.lt; have := As.lt; omega) (s)
  have Bu := Arr.st4o (b' := v5.heap.size) Au (by have := Au.lt; have := As.lt; omega) (s)
  have Bh := Arr.st4o (b' := v5.heap.size) Ah (by have := Ah.lt; have := As.lt; omega) (s)
  have Bs := Arr.st4 As (s)
  have hB' := Bel.st4 hB (b := v5.heap.size) (by have := hB.size; omega) (s)
  clear Aa Ab Ao Ap Aq Au Ah As hB
  have Aa := Ba
  have Ab := Bb
  have Ao := Bo
  have Ap := Bp
  have Aq := Bq
  have Au := Bu
  have Ah := Bh
  have As := Bs
  have hB := hB'
  clear Ba Bb Bo Bp Bq Bu Bh Bs hB'
  go_wp2_with fail
  apply wp_region_alloc_tail 9 (by kernel_rfl) (by kernel_rfl) (by kernel_rfl) (.cells #[.int .u64 0, .int .u64 0, .int .u64 0, .int .u64 0] 24) _ rfl (fun _ _ => by simp [go_sem])
  · intro W hW
    have ra0 := (Arr.to' Aa hW).cg 0 (by omega) (.int .u64 (lim (x1) 0)) rfl
    have ra1 := (Arr.to' Aa hW).cg 1 (by omega) (.int .u64 (lim (x1) 1)) rfl
    have ra2 := (Arr.to' Aa hW).cg 2 (by omega) (.int .u64 (lim (x1) 2)) rfl
    have ra3 := (Arr.to' Aa hW).cg 3 (by omega) (.int .u64 (lim (x1) 3)) rfl
    have ra4 := (Arr.to' Aa hW).cg 4 (by omega) (.int .u64 (lim (y1) 0)) rfl
    have ra5 := (Arr.to' Aa hW).cg 5 (by omega) (.int .u64 (lim (y1) 1)) rfl
    have ra6 := (Arr.to' Aa hW).cg 6 (by omega) (.int .u64 (lim (y1) 2)) rfl
    have ra7 := (Arr.to' Aa hW).cg 7 (by omega) (.int .u64 (lim (y1) 3)) rfl
    have ra8 := (Arr.to' Aa hW).cg 8 (by omega) (.int .u64 (lim (z1) 0)) rfl
    have ra9 := (Arr.to' Aa hW).cg 9 (by omega) (.int .u64 (lim (z1) 1)) rfl
    have ra10 := (Arr.to' Aa hW).cg 10 (by omega) (.int .u64 (lim (z1) 2)) rfl
    have ra11 := (Arr.to' Aa hW).cg 11 (by omega) (.int .u64 (lim (z1) 3)) rfl
    have rb0 := (Arr.to' Ab hW).cg 0 (by omega) (.int .u64 (lim (x2) 0)) rfl
    have rb1 := (Arr.to' Ab hW).cg 1 (by omega) (.int .u64 (lim (x2) 1)) rfl
    have rb2 := (Arr.to' Ab hW).cg 2 (by omega) (.int .u64 (lim (x2) 2)) rfl
    have rb3 := (Arr.to' Ab hW).cg 3 (by omega) (.int .u64 (lim (x2) 3)) rfl
    have rb4 := (Arr.to' Ab hW).cg 4 (by omega) (.int .u64 (lim (y2) 0)) rfl
    have rb5 := (Arr.to' Ab hW).cg 5 (by omega) (.int .u64 (lim (y2) 1)) rfl
    have rb6 := (Arr.to' Ab hW).cg 6 (by omega) (.int .u64 (lim (y2) 2)) rfl
    have rb7 := (Arr.to' Ab hW).cg 7 (by omega) (.int .u64 (lim (y2) 3)) rfl
    have rb8 := (Arr.to' Ab hW).cg 8 (by omega) (.int .u64 (lim (z2) 0)) rfl
    have rb9 := (Arr.to' Ab hW).cg 9 (by omega) (.int .u64 (lim (z2) 1)) rfl
    have rb10 := (Arr.to' Ab hW).cg 10 (by omega) (.int .u64 (lim (z2) 2)) rfl
    have rb11 := (Arr.to' Ab hW).cg 11 (by omega) (.int .u64 (lim (z2) 3)) rfl
    have rp0 := fun ds os => cell_regrown ((Arr.to' Ap hW).c 0 (by omega)) ds os
    have rp1 := fun ds os => cell_regrown ((Arr.to' Ap hW).c 1 (by omega)) ds os
    have rp2 := fun ds os => cell_regrown ((Arr.to' Ap hW).c 2 (by omega)) ds os
    have rp3 := fun ds os => cell_regrown ((Arr.to' Ap hW).c 3 (by omega)) ds os
    have rs0 := fun ds os => cell_regrown ((Arr.to' As hW).c 0 (by omega)) ds os
    have rs1 := fun ds os => cell_regrown ((Arr.to' As hW).c 1 (by omega)) ds os
    have rs2 := fun ds os => cell_regrown ((Arr.to' As hW).c 2 (by omega)) ds os
    have rs3 := fun ds os => cell_regrown ((Arr.to' As hW).c 3 (by omega)) ds os
    simp only [List.take_succ_cons, List.take_zero]
    repeat (go_big_quiet_step (first | (go_at_call 15; with_reducible first | exact Calls.regrown_of (C8 _) | exact Calls.regrown_of (C9 _)) | (go_at_call 16; with_reducible first | exact Calls.regrown_of (C10 _))))
    exact wpQuiet_nil rfl
  intro v6 w16 hb1 hb2
  simp only [List.drop_succ_cons, List.drop_zero, Act.put, List.setIfInBounds_toArray, List.set_cons_succ, List.set_cons_zero]
  have Ea := Arr.to' Aa hb1
  have la_v6 := Ea.lt
  have Ba := Arr.to' (Arr.al' Ea (.cells #[.int .u64 0, .int .u64 0, .int .u64 0, .int .u64 0] 24)) hb2
  have Eb := Arr.to' Ab hb1
  have lb_v6 := Eb.lt
  have Bb := Arr.to' (Arr.al' Eb (.cells #[.int .u64 0, .int .u64 0, .int .u64 0, .int .u64 0] 24)) hb2
  have Eo := Arr.to' Ao hb1
  have lo_v6 := Eo.lt
  have Bo := Arr.to' (Arr.al' Eo (.cells #[.int .u64 0, .int .u64 0, .int .u64 0, .int .u64 0] 24)) hb2
  have Ep := Arr.to' Ap hb1
  have lp_v6 := Ep.lt
  have Bp := Arr.to' (Arr.al' Ep (.cells #[.int .u64 0, .int .u64 0, .int .u64 0, .int .u64 0] 24)) hb2
  have Eq := Arr.to' Aq hb1
  have lq_v6 := Eq.lt
  have Bq := Arr.to' (Arr.al' Eq (.cells #[.int .u64 0, .int .u64 0, .int .u64 0, .int .u64 0] 24)) hb2
  have Eu := Arr.to' Au hb1
  have lu_v6 := Eu.lt
  have Bu := Arr.to' (Arr.al' Eu (.cells #[.int .u64 0, .int .u64 0, .int .u64 0, .int .u64 0] 24)) hb2
  have Eh := Arr.to' Ah hb1
  have lh_v6 := Eh.lt
  have Bh := Arr.to' (Arr.al' Eh (.cells #[.int .u64 0, .int .u64 0, .int .u64 0, .int .u64 0] 24)) hb2
  have Es := Arr.to' As hb1
  have ls_v6 := Es.lt
  have Bs := Arr.to' (Arr.al' Es (.cells #[.int .u64 0, .int .u64 0, .int .u64 0, .int .u64 0] 24)) hb2
  have Br := (Arr.mk4 (w := (v6.alloc (.cells #[.int .u64 0, .int .u64 0, .int .u64 0, .int .u64 0] 24))) (f := fun _ => .int .u64 0) (b := v6.heap.size) (by simp [go_sem]) (by simp [go_sem]) (by simp [go_sem]) (by simp [go_sem]) (by simp [go_sem]) (by simp [go_sem]) (by simp [go_sem]) (by simp [go_sem])).below hb2 (by go_size)
  have lB_v6 := (Bel.call hB hb1).size
  have hB' := Bel.call (Bel.al (Bel.call hB hb1) (.cells #[.int .u64 0, .int .u64 0, .int .u64 0, .int .u64 0] 24)) hb2
  clear hb1 hb2 Ea Eb Eo Ep Eq Eu Eh Es Aa Ab Ao Ap Aq Au Ah As hB
  have Aa := Ba
  have Ab := Bb
  have Ao := Bo
  have Ap := Bp
  have Aq := Bq
  have Au := Bu
  have Ah := Bh
  have As := Bs
  have Ar := Br
  have hB := hB'
  clear Ba Bb Bo Bp Bq Bu Bh Bs Br hB'
  have cr := Ar.c
  have zr := Ar.z
  have Ba := Arr.st4o (b' := v6.heap.size) Aa (by have := Aa.lt; have := Ar.lt; omega) (r)
  have Bb := Arr.st4o (b' := v6.heap.size) Ab (by have := Ab.lt; have := Ar.lt; omega) (r)
  have Bo := Arr.st4o (b' := v6.heap.size) Ao (by have := Ao.lt; have := Ar.lt; omega) (r)
  have Bp := Arr.st4o (b' := v6.heap.size) Ap (by have := Ap.lt; have := Ar.lt; omega) (r)
  have Bq := Arr.st4o (b' := v6.heap.size) Aq (by have := Aq.lt; have := Ar.lt; omega) (r)
  have Bu := Arr.st4o (b' := v6.heap.size) Au (by have := Au.lt; have := Ar.lt; omega) (r)
  have Bh := Arr.st4o (b' := v6.heap.size) Ah (by have := Ah.lt; have := Ar.lt; omega) (r)
  have Bs := Arr.st4o (b' := v6.heap.size) As (by have := As.lt; have := Ar.lt; omega) (r)
  have Br := Arr.st4 Ar (r)
  have hB' := Bel.st4 hB (b := v6.heap.size) (by have := hB.size; omega) (r)
  clear Aa Ab Ao Ap Aq Au Ah As Ar hB
  have Aa := Ba
  have Ab := Bb
  have Ao := Bo
  have Ap := Bp
  have Aq := Bq
  have Au := Bu
  have Ah := Bh
  have As := Bs
  have Ar := Br
  have hB := hB'
  clear Ba Bb Bo Bp Bq Bu Bh Bs Br hB'
  have ch := Ah.c
  have cr := Ar.c
  go_wp2_with fail
  refine (C11 _).mono ?_
  rintro e w17 ⟨rfl, hb⟩
  have Ba := Arr.to' Aa hb
  have Bb := Arr.to' Ab hb
  have Bo := Arr.to' Ao hb
  have Bp := Arr.to' Ap hb
  have Bq := Arr.to' Aq hb
  have Bu := Arr.to' Au hb
  have Bh := Arr.to' Ah hb
  have Bs := Arr.to' As hb
  have Br := Arr.to' Ar hb
  have hB' := Bel.call hB hb
  clear hb cr zr ch Aa Ab Ao Ap Aq Au Ah As Ar hB
  have Aa := Ba
  have Ab := Bb
  have Ao := Bo
  have Ap := Bp
  have Aq := Bq
  have Au := Bu
  have Ah := Bh
  have As := Bs
  have Ar := Br
  have hB := hB'
  clear Ba Bb Bo Bp Bq Bu Bh Bs Br hB'
  have la_5 := Aa.lt
  have lb_5 := Ab.lt
  have lo_5 := Ao.lt
  have lp_5 := Ap.lt
  have lq_5 := Aq.lt
  have lu_5 := Au.lt
  have lh_5 := Ah.lt
  have ls_5 := As.lt
  have lr_5 := Ar.lt
  have lB_5 := hB.size
  have Ba := (Arr.al' Aa (.cells #[.int .u64 (lim (h2) 0), .int .u64 (lim (h2) 1), .int .u64 (lim (h2) 2), .int .u64 (lim (h2) 3)] 24))
  have Bb := (Arr.al' Ab (.cells #[.int .u64 (lim (h2) 0), .int .u64 (lim (h2) 1), .int .u64 (lim (h2) 2), .int .u64 (lim (h2) 3)] 24))
  have Bo := (Arr.al' Ao (.cells #[.int .u64 (lim (h2) 0), .int .u64 (lim (h2) 1), .int .u64 (lim (h2) 2), .int .u64 (lim (h2) 3)] 24))
  have Bp := (Arr.al' Ap (.cells #[.int .u64 (lim (h2) 0), .int .u64 (lim (h2) 1), .int .u64 (lim (h2) 2), .int .u64 (lim (h2) 3)] 24))
  have Bq := (Arr.al' Aq (.cells #[.int .u64 (lim (h2) 0), .int .u64 (lim (h2) 1), .int .u64 (lim (h2) 2), .int .u64 (lim (h2) 3)] 24))
  have Bu := (Arr.al' Au (.cells #[.int .u64 (lim (h2) 0), .int .u64 (lim (h2) 1), .int .u64 (lim (h2) 2), .int .u64 (lim (h2) 3)] 24))
  have Bh := (Arr.al' Ah (.cells #[.int .u64 (lim (h2) 0), .int .u64 (lim (h2) 1), .int .u64 (lim (h2) 2), .int .u64 (lim (h2) 3)] 24))
  have Bs := (Arr.al' As (.cells #[.int .u64 (lim (h2) 0), .int .u64 (lim (h2) 1), .int .u64 (lim (h2) 2), .int .u64 (lim (h2) 3)] 24))
  have Br := (Arr.al' Ar (.cells #[.int .u64 (lim (h2) 0), .int .u64 (lim (h2) 1), .int .u64 (lim (h2) 2), .int .u64 (lim (h2) 3)] 24))
  have Bi : Arr ((w17.alloc (.cells #[.int .u64 (lim (h2) 0), .int .u64 (lim (h2) 1), .int .u64 (lim (h2) 2), .int .u64 (lim (h2) 3)] 24))) (w17.heap.size) 4 (fun j => .int .u64 (lim (h2) j)) := by refine Arr.mk4 ?_ ?_ ?_ ?_ ?_ ?_ ?_ ?_ <;> simp [go_sem]
  have hB' := (Bel.al hB (.cells #[.int .u64 (lim (h2) 0), .int .u64 (lim (h2) 1), .int .u64 (lim (h2) 2), .int .u64 (lim (h2) 3)] 24))
  clear Aa Ab Ao Ap Aq Au Ah As Ar hB
  have Aa := Ba
  have Ab := Bb
  have Ao := Bo
  have Ap := Bp
  have Aq := Bq
  have Au := Bu
  have Ah := Bh
  have As := Bs
  have Ar := Br
  have Ai := Bi
  have hB := hB'
  clear Ba Bb Bo Bp Bq Bu Bh Bs Br Bi hB'
  have ch := Ah.c
  have ci := Ai.c
  go_wp2_with fail
  refine (C12 _).mono ?_
  rintro e w8 ⟨rfl, hb⟩
  have Ba := Arr.to' Aa hb
  have Bb := Arr.to' Ab hb
  have Bo := Arr.to' Ao hb
  have Bp := Arr.to' Ap hb
  have Bq := Arr.to' Aq hb
  have Bu := Arr.to' Au hb
  have Bh := Arr.to' Ah hb
  have Bs := Arr.to' As hb
  have Br := Arr.to' Ar hb
  have Bi := Arr.to' Ai hb
  have hB' := Bel.call hB hb
  clear hb ch ci Aa Ab Ao Ap Aq Au Ah As Ar Ai hB
  have Aa := Ba
  have Ab := Bb
  have Ao := Bo
  have Ap := Bp
  have Aq := Bq
  have Au := Bu
  have Ah := Bh
  have As := Bs
  have Ar := Br
  have Ai := Bi
  have hB := hB'
  clear Ba Bb Bo Bp Bq Bu Bh Bs Br Bi hB'
  have la_6 := Aa.lt
  have lb_6 := Ab.lt
  have lo_6 := Ao.lt
  have lp_6 := Ap.lt
  have lq_6 := Aq.lt
  have lu_6 := Au.lt
  have lh_6 := Ah.lt
  have ls_6 := As.lt
  have lr_6 := Ar.lt
  have li_6 := Ai.lt
  have lB_6 := hB.size
  have Ba := (Arr.al' Aa (.cells #[.int .u64 (lim (h3) 0), .int .u64 (lim (h3) 1), .int .u64 (lim (h3) 2), .int .u64 (lim (h3) 3)] 24))
  have Bb := (Arr.al' Ab (.cells #[.int .u64 (lim (h3) 0), .int .u64 (lim (h3) 1), .int .u64 (lim (h3) 2), .int .u64 (lim (h3) 3)] 24))
  have Bo := (Arr.al' Ao (.cells #[.int .u64 (lim (h3) 0), .int .u64 (lim (h3) 1), .int .u64 (lim (h3) 2), .int .u64 (lim (h3) 3)] 24))
  have Bp := (Arr.al' Ap (.cells #[.int .u64 (lim (h3) 0), .int .u64 (lim (h3) 1), .int .u64 (lim (h3) 2), .int .u64 (lim (h3) 3)] 24))
  have Bq := (Arr.al' Aq (.cells #[.int .u64 (lim (h3) 0), .int .u64 (lim (h3) 1), .int .u64 (lim (h3) 2), .int .u64 (lim (h3) 3)] 24))
  have Bu := (Arr.al' Au (.cells #[.int .u64 (lim (h3) 0), .int .u64 (lim (h3) 1), .int .u64 (lim (h3) 2), .int .u64 (lim (h3) 3)] 24))
  have Bh := (Arr.al' Ah (.cells #[.int .u64 (lim (h3) 0), .int .u64 (lim (h3) 1), .int .u64 (lim (h3) 2), .int .u64 (lim (h3) 3)] 24))
  have Bs := (Arr.al' As (.cells #[.int .u64 (lim (h3) 0), .int .u64 (lim (h3) 1), .int .u64 (lim (h3) 2), .int .u64 (lim (h3) 3)] 24))
  have Br := (Arr.al' Ar (.cells #[.int .u64 (lim (h3) 0), .int .u64 (lim (h3) 1), .int .u64 (lim (h3) 2), .int .u64 (lim (h3) 3)] 24))
  have Bi := (Arr.al' Ai (.cells #[.int .u64 (lim (h3) 0), .int .u64 (lim (h3) 1), .int .u64 (lim (h3) 2), .int .u64 (lim (h3) 3)] 24))
  have Bj : Arr ((w8.alloc (.cells #[.int .u64 (lim (h3) 0), .int .u64 (lim (h3) 1), .int .u64 (lim (h3) 2), .int .u64 (lim (h3) 3)] 24))) (w8.heap.size) 4 (fun j => .int .u64 (lim (h3) j)) := by refine Arr.mk4 ?_ ?_ ?_ ?_ ?_ ?_ ?_ ?_ <;> simp [go_sem]
  have hB' := (Bel.al hB (.cells #[.int .u64 (lim (h3) 0), .int .u64 (lim (h3) 1), .int .u64 (lim (h3) 2), .int .u64 (lim (h3) 3)] 24))
  clear Aa Ab Ao Ap Aq Au Ah As Ar Ai hB
  have Aa := Ba
  have Ab := Bb
  have Ao := Bo
  have Ap := Bp
  have Aq := Bq
  have Au := Bu
  have Ah := Bh
  have As := Bs
  have Ar := Br
  have Ai := Bi
  have Aj := Bj
  have hB := hB'
  clear Ba Bb Bo Bp Bq Bu Bh Bs Br Bi Bj hB'
  have cu := Au.c
  have ci := Ai.c
  go_wp2_with fail
  refine (C13 _).mono ?_
  rintro e w9 ⟨rfl, hb⟩
  have Ba := Arr.to' Aa hb
  have Bb := Arr.to' Ab hb
  have Bo := Arr.to' Ao hb
  have Bp := Arr.to' Ap hb
  have Bq := Arr.to' Aq hb
  have Bu := Arr.to' Au hb
  have Bh := Arr.to' Ah hb
  have Bs := Arr.to' As hb
  have Br := Arr.to' Ar hb
  have Bi := Arr.to' Ai hb
  have Bj := Arr.to' Aj hb
  have hB' := Bel.call hB hb
  clear hb cu ci Aa Ab Ao Ap Aq Au Ah As Ar Ai Aj hB
  have Aa := Ba
  have Ab := Bb
  have Ao := Bo
  have Ap := Bp
  have Aq := Bq
  have Au := Bu
  have Ah := Bh
  have As := Bs
  have Ar := Br
  have Ai := Bi
  have Aj := Bj
  have hB := hB'
  clear Ba Bb Bo Bp Bq Bu Bh Bs Br Bi Bj hB'
  have la_7 := Aa.lt
  have lb_7 := Ab.lt
  have lo_7 := Ao.lt
  have lp_7 := Ap.lt
  have lq_7 := Aq.lt
  have lu_7 := Au.lt
  have lh_7 := Ah.lt
  have ls_7 := As.lt
  have lr_7 := Ar.lt
  have li_7 := Ai.lt
  have lj_7 := Aj.lt
  have lB_7 := hB.size
  have Ba := (Arr.al' Aa (.cells #[.int .u64 (lim (v) 0), .int .u64 (lim (v) 1), .int .u64 (lim (v) 2), .int .u64 (lim (v) 3)] 24))
  have Bb := (Arr.al' Ab (.cells #[.int .u64 (lim (v) 0), .int .u64 (lim (v) 1), .int .u64 (lim (v) 2), .int .u64 (lim (v) 3)] 24))
  have Bo := (Arr.al' Ao (.cells #[.int .u64 (lim (v) 0), .int .u64 (lim (v) 1), .int .u64 (lim (v) 2), .int .u64 (lim (v) 3)] 24))
  have Bp := (Arr.al' Ap (.cells #[.int .u64 (lim (v) 0), .int .u64 (lim (v) 1), .int .u64 (lim (v) 2), .int .u64 (lim (v) 3)] 24))
  have Bq := (Arr.al' Aq (.cells #[.int .u64 (lim (v) 0), .int .u64 (lim (v) 1), .int .u64 (lim (v) 2), .int .u64 (lim (v) 3)] 24))
  have Bu := (Arr.al' Au (.cells #[.int .u64 (lim (v) 0), .int .u64 (lim (v) 1), .int .u64 (lim (v) 2), .int .u64 (lim (v) 3)] 24))
  have Bh := (Arr.al' Ah (.cells #[.int .u64 (lim (v) 0), .int .u64 (lim (v) 1), .int .u64 (lim (v) 2), .int .u64 (lim (v) 3)] 24))
  have Bs := (Arr.al' As (.cells #[.int .u64 (lim (v) 0), .int .u64 (lim (v) 1), .int .u64 (lim (v) 2), .int .u64 (lim (v) 3)] 24))
  have Br := (Arr.al' Ar (.cells #[.int .u64 (lim (v) 0), .int .u64 (lim (v) 1), .int .u64 (lim (v) 2), .int .u64 (lim (v) 3)] 24))
  have Bi := (Arr.al' Ai (.cells #[.int .u64 (lim (v) 0), .int .u64 (lim (v) 1), .int .u64 (lim (v) 2), .int .u64 (lim (v) 3)] 24))
  have Bj := (Arr.al' Aj (.cells #[.int .u64 (lim (v) 0), .int .u64 (lim (v) 1), .int .u64 (lim (v) 2), .int .u64 (lim (v) 3)] 24))
  have Bv : Arr ((w9.alloc (.cells #[.int .u64 (lim (v) 0), .int .u64 (lim (v) 1), .int .u64 (lim (v) 2), .int .u64 (lim (v) 3)] 24))) (w9.heap.size) 4 (fun j => .int .u64 (lim (v) j)) := by refine Arr.mk4 ?_ ?_ ?_ ?_ ?_ ?_ ?_ ?_ <;> simp [go_sem]
  have hB' := (Bel.al hB (.cells #[.int .u64 (lim (v) 0), .int .u64 (lim (v) 1), .int .u64 (lim (v) 2), .int .u64 (lim (v) 3)] 24))
  clear Aa Ab Ao Ap Aq Au Ah As Ar Ai Aj hB
  have Aa := Ba
  have Ab := Bb
  have Ao := Bo
  have Ap := Bp
  have Aq := Bq
  have Au := Bu
  have Ah := Bh
  have As := Bs
  have Ar := Br
  have Ai := Bi
  have Aj := Bj
  have Av := Bv
  have hB := hB'
  clear Ba Bb Bo Bp Bq Bu Bh Bs Br Bi Bj Bv hB'
  go_wp2_with fail
  apply wp_region_alloc_tail 9 (by kernel_rfl) (by kernel_rfl) (by kernel_rfl) (.cells #[.int .u64 0, .int .u64 0, .int .u64 0, .int .u64 0] 24) _ rfl (fun _ _ => by simp [go_sem])
  · intro W hW
    have rr0 := fun ds os => cell_regrown ((Arr.to' Ar hW).c 0 (by omega)) ds os
    have rr1 := fun ds os => cell_regrown ((Arr.to' Ar hW).c 1 (by omega)) ds os
    have rr2 := fun ds os => cell_regrown ((Arr.to' Ar hW).c 2 (by omega)) ds os
    have rr3 := fun ds os => cell_regrown ((Arr.to' Ar hW).c 3 (by omega)) ds os
    have rj0 := fun ds os => cell_regrown ((Arr.to' Aj hW).c 0 (by omega)) ds os
    have rj1 := fun ds os => cell_regrown ((Arr.to' Aj hW).c 1 (by omega)) ds os
    have rj2 := fun ds os => cell_regrown ((Arr.to' Aj hW).c 2 (by omega)) ds os
    have rj3 := fun ds os => cell_regrown ((Arr.to' Aj hW).c 3 (by omega)) ds os
    have rv0 := fun ds os => cell_regrown ((Arr.to' Av hW).c 0 (by omega)) ds os
    have rv1 := fun ds os => cell_regrown ((Arr.to' Av hW).c 1 (by omega)) ds os
    have rv2 := fun ds os => cell_regrown ((Arr.to' Av hW).c 2 (by omega)) ds os
    have rv3 := fun ds os => cell_regrown ((Arr.to' Av hW).c 3 (by omega)) ds os
    simp only [List.take_succ_cons, List.take_zero]
    repeat (go_big_quiet_step (first | (go_at_call 15; with_reducible first | exact Calls.regrown_of (C14 _)) | (go_at_call 16; with_reducible first | exact Calls.regrown_of (C15 _) | exact Calls.regrown_of (C17 _)) | (go_at_call 14; with_reducible first | exact Calls.regrown_of (C16 _))))
    exact wpQuiet_nil rfl
  intro v10 w20 hb1 hb2
  simp only [List.drop_succ_cons, List.drop_zero, Act.put, List.setIfInBounds_toArray, List.set_cons_succ, List.set_cons_zero]
  have Ea := Arr.to' Aa hb1
  have la_v10 := Ea.lt
  have Ba := Arr.to' (Arr.al' Ea (.cells #[.int .u64 0, .int .u64 0, .int .u64 0, .int .u64 0] 24)) hb2
  have Eb := Arr.to' Ab hb1
  have lb_v10 := Eb.lt
  have Bb := Arr.to' (Arr.al' Eb (.cells #[.int .u64 0, .int .u64 0, .int .u64 0, .int .u64 0] 24)) hb2
  have Eo := Arr.to' Ao hb1
  have lo_v10 := Eo.lt
  have Bo := Arr.to' (Arr.al' Eo (.cells #[.int .u64 0, .int .u64 0, .int .u64 0, .int .u64 0] 24)) hb2
  have Ep := Arr.to' Ap hb1
  have lp_v10 := Ep.lt
  have Bp := Arr.to' (Arr.al' Ep (.cells #[.int .u64 0, .int .u64 0, .int .u64 0, .int .u64 0] 24)) hb2
  have Eq := Arr.to' Aq hb1
  have lq_v10 := Eq.lt
  have Bq := Arr.to' (Arr.al' Eq (.cells #[.int .u64 0, .int .u64 0, .int .u64 0, .int .u64 0] 24)) hb2
  have Eu := Arr.to' Au hb1
  have lu_v10 := Eu.lt
  have Bu := Arr.to' (Arr.al' Eu (.cells #[.int .u64 0, .int .u64 0, .int .u64 0, .int .u64 0] 24)) hb2
  have Eh := Arr.to' Ah hb1
  have lh_v10 := Eh.lt
  have Bh := Arr.to' (Arr.al' Eh (.cells #[.int .u64 0, .int .u64 0, .int .u64 0, .int .u64 0] 24)) hb2
  have Es := Arr.to' As hb1
  have ls_v10 := Es.lt
  have Bs := Arr.to' (Arr.al' Es (.cells #[.int .u64 0, .int .u64 0, .int .u64 0, .int .u64 0] 24)) hb2
  have Er := Arr.to' Ar hb1
  have lr_v10 := Er.lt
  have Br := Arr.to' (Arr.al' Er (.cells #[.int .u64 0, .int .u64 0, .int .u64 0, .int .u64 0] 24)) hb2
  have Ei := Arr.to' Ai hb1
  have li_v10 := Ei.lt
  have Bi := Arr.to' (Arr.al' Ei (.cells #[.int .u64 0, .int .u64 0, .int .u64 0, .int .u64 0] 24)) hb2
  have Ej := Arr.to' Aj hb1
  have lj_v10 := Ej.lt
  have Bj := Arr.to' (Arr.al' Ej (.cells #[.int .u64 0, .int .u64 0, .int .u64 0, .int .u64 0] 24)) hb2
  have Ev := Arr.to' Av hb1
  have lv_v10 := Ev.lt
  have Bv := Arr.to' (Arr.al' Ev (.cells #[.int .u64 0, .int .u64 0, .int .u64 0, .int .u64 0] 24)) hb2
  have Bx := (Arr.mk4 (w := (v10.alloc (.cells #[.int .u64 0, .int .u64 0, .int .u64 0, .int .u64 0] 24))) (f := fun _ => .int .u64 0) (b := v10.heap.size) (by simp [go_sem]) (by simp [go_sem]) (by simp [go_sem]) (by simp [go_sem]) (by simp [go_sem]) (by simp [go_sem]) (by simp [go_sem]) (by simp [go_sem])).below hb2 (by go_size)
  have lB_v10 := (Bel.call hB hb1).size
  have hB' := Bel.call (Bel.al (Bel.call hB hb1) (.cells #[.int .u64 0, .int .u64 0, .int .u64 0, .int .u64 0] 24)) hb2
  clear hb1 hb2 Ea Eb Eo Ep Eq Eu Eh Es Er Ei Ej Ev Aa Ab Ao Ap Aq Au Ah As Ar Ai Aj Av hB
  have Aa := Ba
  have Ab := Bb
  have Ao := Bo
  have Ap := Bp
  have Aq := Bq
  have Au := Bu
  have Ah := Bh
  have As := Bs
  have Ar := Br
  have Ai := Bi
  have Aj := Bj
  have Av := Bv
  have Ax := Bx
  have hB := hB'
  clear Ba Bb Bo Bp Bq Bu Bh Bs Br Bi Bj Bv Bx hB'
  have cx := Ax.c
  have zx := Ax.z
  have Ba := Arr.st4o (b' := v10.heap.size) Aa (by have := Aa.lt; have := Ax.lt; omega) (X)
  have Bb := Arr.st4o (b' := v10.heap.size) Ab (by have := Ab.lt; have := Ax.lt; omega) (X)
  have Bo := Arr.st4o (b' := v10.heap.size) Ao (by have := Ao.lt; have := Ax.lt; omega) (X)
  have Bp := Arr.st4o (b' := v10.heap.size) Ap (by have := Ap.lt; have := Ax.lt; omega) (X)
  have Bq := Arr.st4o (b' := v10.heap.size) Aq (by have := Aq.lt; have := Ax.lt; omega) (X)
  have Bu := Arr.st4o (b' := v10.heap.size) Au (by have := Au.lt; have := Ax.lt; omega) (X)
  have Bh := Arr.st4o (b' := v10.heap.size) Ah (by have := Ah.lt; have := Ax.lt; omega) (X)
  have Bs := Arr.st4o (b' := v10.heap.size) As (by have := As.lt; have := Ax.lt; omega) (X)
  have Br := Arr.st4o (b' := v10.heap.size) Ar (by have := Ar.lt; have := Ax.lt; omega) (X)
  have Bi := Arr.st4o (b' := v10.heap.size) Ai (by have := Ai.lt; have := Ax.lt; omega) (X)
  have Bj := Arr.st4o (b' := v10.heap.size) Aj (by have := Aj.lt; have := Ax.lt; omega) (X)
  have Bv := Arr.st4o (b' := v10.heap.size) Av (by have := Av.lt; have := Ax.lt; omega) (X)
  have Bx := Arr.st4 Ax (X)
  have hB' := Bel.st4 hB (b := v10.heap.size) (by have := hB.size; omega) (X)
  clear Aa Ab Ao Ap Aq Au Ah As Ar Ai Aj Av Ax hB
  have Aa := Ba
  have Ab := Bb
  have Ao := Bo
  have Ap := Bp
  have Aq := Bq
  have Au := Bu
  have Ah := Bh
  have As := Bs
  have Ar := Br
  have Ai := Bi
  have Aj := Bj
  have Av := Bv
  have Ax := Bx
  have hB := hB'
  clear Ba Bb Bo Bp Bq Bu Bh Bs Br Bi Bj Bv Bx hB'
  have rx0 := fun ds os => cell_regrown (Ax.c 0 (by omega)) ds os
  have rx1 := fun ds os => cell_regrown (Ax.c 1 (by omega)) ds os
  have rx2 := fun ds os => cell_regrown (Ax.c 2 (by omega)) ds os
  have rx3 := fun ds os => cell_regrown (Ax.c 3 (by omega)) ds os
  have rr0 := fun ds os => cell_regrown (Ar.c 0 (by omega)) ds os
  have rr1 := fun ds os => cell_regrown (Ar.c 1 (by omega)) ds os
  have rr2 := fun ds os => cell_regrown (Ar.c 2 (by omega)) ds os
  have rr3 := fun ds os => cell_regrown (Ar.c 3 (by omega)) ds os
  have rv0 := fun ds os => cell_regrown (Av.c 0 (by omega)) ds os
  have rv1 := fun ds os => cell_regrown (Av.c 1 (by omega)) ds os
  have rv2 := fun ds os => cell_regrown (Av.c 2 (by omega)) ds os
  have rv3 := fun ds os => cell_regrown (Av.c 3 (by omega)) ds os
  have rs0 := fun ds os => cell_regrown (As.c 0 (by omega)) ds os
  have rs1 := fun ds os => cell_regrown (As.c 1 (by omega)) ds os
  have rs2 := fun ds os => cell_regrown (As.c 2 (by omega)) ds os
  have rs3 := fun ds os => cell_regrown (As.c 3 (by omega)) ds os
  have rj0 := fun ds os => cell_regrown (Aj.c 0 (by omega)) ds os
  have rj1 := fun ds os => cell_regrown (Aj.c 1 (by omega)) ds os
  have rj2 := fun ds os => cell_regrown (Aj.c 2 (by omega)) ds os
  have rj3 := fun ds os => cell_regrown (Aj.c 3 (by omega)) ds os
  have rh0 := fun ds os => cell_regrown (Ah.c 0 (by omega)) ds os
  have rh1 := fun ds os => cell_regrown (Ah.c 1 (by omega)) ds os
  have rh2 := fun ds os => cell_regrown (Ah.c 2 (by omega)) ds os
  have rh3 := fun ds os => cell_regrown (Ah.c 3 (by omega)) ds os
  have ra0 := Aa.cg 0 (by omega) (.int .u64 (lim (x1) 0)) rfl
  have ra1 := Aa.cg 1 (by omega) (.int .u64 (lim (x1) 1)) rfl
  have ra2 := Aa.cg 2 (by omega) (.int .u64 (lim (x1) 2)) rfl
  have ra3 := Aa.cg 3 (by omega) (.int .u64 (lim (x1) 3)) rfl
  have ra4 := Aa.cg 4 (by omega) (.int .u64 (lim (y1) 0)) rfl
  have ra5 := Aa.cg 5 (by omega) (.int .u64 (lim (y1) 1)) rfl
  have ra6 := Aa.cg 6 (by omega) (.int .u64 (lim (y1) 2)) rfl
  have ra7 := Aa.cg 7 (by omega) (.int .u64 (lim (y1) 3)) rfl
  have ra8 := Aa.cg 8 (by omega) (.int .u64 (lim (z1) 0)) rfl
  have ra9 := Aa.cg 9 (by omega) (.int .u64 (lim (z1) 1)) rfl
  have ra10 := Aa.cg 10 (by omega) (.int .u64 (lim (z1) 2)) rfl
  have ra11 := Aa.cg 11 (by omega) (.int .u64 (lim (z1) 3)) rfl
  have rb0 := Ab.cg 0 (by omega) (.int .u64 (lim (x2) 0)) rfl
  have rb1 := Ab.cg 1 (by omega) (.int .u64 (lim (x2) 1)) rfl
  have rb2 := Ab.cg 2 (by omega) (.int .u64 (lim (x2) 2)) rfl
  have rb3 := Ab.cg 3 (by omega) (.int .u64 (lim (x2) 3)) rfl
  have rb4 := Ab.cg 4 (by omega) (.int .u64 (lim (y2) 0)) rfl
  have rb5 := Ab.cg 5 (by omega) (.int .u64 (lim (y2) 1)) rfl
  have rb6 := Ab.cg 6 (by omega) (.int .u64 (lim (y2) 2)) rfl
  have rb7 := Ab.cg 7 (by omega) (.int .u64 (lim (y2) 3)) rfl
  have rb8 := Ab.cg 8 (by omega) (.int .u64 (lim (z2) 0)) rfl
  have rb9 := Ab.cg 9 (by omega) (.int .u64 (lim (z2) 1)) rfl
  have rb10 := Ab.cg 10 (by omega) (.int .u64 (lim (z2) 2)) rfl
  have rb11 := Ab.cg 11 (by omega) (.int .u64 (lim (z2) 3)) rfl
  go_wp2_with fail
  refine wp_region_below_tail 18 (by kernel_rfl) (by kernel_rfl) ?_
  simp only [List.take_succ_cons, List.take_zero, List.drop_succ_cons, List.drop_zero]
  repeat (go_big_quiet_step (first | (go_at_call 16; with_reducible first | exact Calls.regrown_of (C18 _) | exact Calls.regrown_of (C21 _)) | (go_at_call 15; with_reducible first | exact Calls.regrown_of (C19 _) | exact Calls.regrown_of (C20 _) | exact Calls.regrown_of (C22 _) | exact Calls.regrown_of (C23 _))))
  refine wpQuiet_nil ?_
  intro w11 hw'
  obtain ⟨⟨dq, osq⟩, hw''⟩ := hw'
  have hb := below_of hw''
  clear hw''
  have Bo := Arr.to' Ao hb
  have hB' := Bel.call hB hb
  clear hb cx zx rx0 rx1 rx2 rx3 rr0 rr1 rr2 rr3 rv0 rv1 rv2 rv3 rs0 rs1 rs2 rs3 rj0 rj1 rj2 rj3 rh0 rh1 rh2 rh3 ra0 ra1 ra2 ra3 ra4 ra5 ra6 ra7 ra8 ra9 ra10 ra11 rb0 rb1 rb2 rb3 rb4 rb5 rb6 rb7 rb8 rb9 rb10 rb11 Aa Ab Ao Ap Aq Au Ah As Ar Ai Aj Av Ax hB
  have Ao := Bo
  have hB := hB'
  clear Bo hB'
  have hS := hB.size
  have co_0 := Ao.cv 0 (by omega) (.int .u64 0) rfl
  have co_1 := Ao.cv 1 (by omega) (.int .u64 0) rfl
  have co_2 := Ao.cv 2 (by omega) (.int .u64 0) rfl
  have co_3 := Ao.cv 3 (by omega) (.int .u64 0) rfl
  have co_4 := Ao.cv 4 (by omega) (.int .u64 0) rfl
  have co_5 := Ao.cv 5 (by omega) (.int .u64 0) rfl
  have co_6 := Ao.cv 6 (by omega) (.int .u64 0) rfl
  have co_7 := Ao.cv 7 (by omega) (.int .u64 0) rfl
  have co_8 := Ao.cv 8 (by omega) (.int .u64 0) rfl
  have co_9 := Ao.cv 9 (by omega) (.int .u64 0) rfl
  have co_10 := Ao.cv 10 (by omega) (.int .u64 0) rfl
  have co_11 := Ao.cv 11 (by omega) (.int .u64 0) rfl
  have zo := Ao.z
  go_wp2_with fail
  refine bodyPost_ret (v := tv X Y Z) (by simp [results, Tryz.results33, go_sem, co_0, co_1, co_2, co_3, co_4, co_5, co_6, co_7, co_8, co_9, co_10, co_11]) rfl ⟨rfl, ?_⟩
  go_grown
end Go.Proofs.YtgekafmojedlkaaGreat
