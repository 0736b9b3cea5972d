/- gcm's Open of texts that are too long; Unprotect of the program. -/
import Derived.Deep.RegionWith
import Derived.Test.YtjaljnfijhfkcaaGreatDoorJ19
set_option linter.all false
set_option maxRecDepth 100000
namespace Go.Proofs.YtjaljnfijhfkcaaGreatDoor
open Go.RowKit Go.Sort Lin
set_option maxHeartbeats 1000000 in
theorem gOpen_long (key nonce ad s k0 n0 : ByteArray) (x y u v : Int) (hs : 65552 < s.size) (w : World)
    (C27 : ∀ W, Calls Tryz.prog 53 #[.string key, .string nonce] W fun e w' => e = .returned (.tuple #[sl k0 n0 x y u v, .int .i64 0]) ∧ Below W.heap.size W w') :
    Calls Tryz.prog 48 #[.string key, .string nonce, .string ad, .string s] w fun e w' => e = .returned (.tuple #[.string ⟨#[]⟩, .int .i64 12]) ∧ Below w.heap.size w w' := by
  have s1 : (65552 : Int) < (s.size : Int) := by omega
  have s2 : ¬ (s.size : Int) < 16 := by omega
  clear hs
  unfold sl at *
  go_enter Tryz.func48, Tryz.ntmps48
  go_wp2_with fail
  refine (C27 _).mono ?_
  rintro e w1 ⟨rfl, B1⟩
  clear C27
  go_wp2_with fail
  refine bodyPost_ret (v := .tuple #[.string ⟨#[]⟩, .int .i64 12]) (by simp [results, Tryz.results48, go_sem]) rfl ⟨rfl, Bel.al B1 _⟩
/-- What Open tells, of long texts, too. -/
def oqE (key nonce ad s : ByteArray) : Int := if rfg key nonce = 0 ∧ 65552 < s.size then 12 else opE key nonce ad s
def oqS (key nonce ad s : ByteArray) : ByteArray := if rfg key nonce = 0 ∧ 65552 < s.size then ⟨#[]⟩ else opS key nonce ad s
theorem gOpen_all (key nonce ad s : ByteArray) (hk : key.size = 16) (hn : nonce.size = 12) (ha : ad.size ≤ 1000000) (w : World) :
    Calls Tryz.prog 48 #[.string key, .string nonce, .string ad, .string s] w fun e w' => e = .returned (.tuple #[.string (oqS key nonce ad s), .int .i64 (oqE key nonce ad s)]) ∧ Below w.heap.size w w' := by
  have r := rfg_ok hk hn
  unfold oqS oqE
  by_cases h : 65552 < s.size
  · rw [if_pos ⟨r, h⟩, if_pos ⟨r, h⟩]
    have C := fun W => sealerOf_any key nonce (by omega) W
    unfold slV at C
    rw [r, if_pos rfl] at C
    exact gOpen_long key nonce ad s _ _ _ _ _ _ h w C
  · rw [if_neg (fun c => h c.2), if_neg (fun c => h c.2)]
    exact gOpen_any key nonce ad s (by omega) ha (by omega) w
set_option maxHeartbeats 2000000 in
theorem Unprotect_1 (key iv b : ByteArray) (k q r : Int) (hr : ¬ r = 0) (w : World)
    (C2 : ∀ W, Calls Tryz.prog 18 #[sdV key iv q] W fun e w' => e = .returned (.tuple #[.pointer none, .int .i64 r]) ∧ Below W.heap.size W w') :
    Calls Tryz.prog 12 #[sdV key iv q, rcV k b] w fun e w' => e = .returned (.tuple #[sdV key iv q, rcV 0 ⟨#[]⟩, .int .i64 r]) ∧ Below w.heap.size w w' := by
  unfold sdV rcV at *
  have A0 : Arr ((((w.alloc (.cells #[.string key, .string iv, .int .u64 q] 24)).alloc (.cells #[.int .i64 k, .string b] 26)).alloc (.cells #[.string ⟨#[]⟩, .string ⟨#[]⟩, .int .u64 0] 24)).alloc (.cells #[.int .i64 0, .string ⟨#[]⟩] 26)) w.heap.size 3 (sd3 key iv q) := (Arr.al' (n := 2) (Arr.al' (n := 2) (Arr.al' (n := 2) (Arr.new w _ 24 _ rfl _ 3 (sd3_at key iv q)) _) _) _)
  have A1 : Arr ((((w.alloc (.cells #[.string key, .string iv, .int .u64 q] 24)).alloc (.cells #[.int .i64 k, .string b] 26)).alloc (.cells #[.string ⟨#[]⟩, .string ⟨#[]⟩, .int .u64 0] 24)).alloc (.cells #[.int .i64 0, .string ⟨#[]⟩] 26)) (w.heap.size + 1) 2 (rc2 k b) := (Arr.al' (n := 1) (Arr.al' (n := 1) (Arr.new (w.alloc (.cells #[.string key, .string iv, .int .u64 q] 24)) _ 26 (w.heap.size + 1) (by simp) _ 2 (rc2_at k b)) _) _)
  have A2 : Arr ((((w.alloc (.cells #[.string key, .string iv, .int .u64 q] 24)).alloc (.cells #[.int .i64 k, .string b] 26)).alloc (.cells #[.string ⟨#[]⟩, .string ⟨#[]⟩, .int .u64 0] 24)).alloc (.cells #[.int .i64 0, .string ⟨#[]⟩] 26)) (w.heap.size + 1 + 1) 3 (sd3 ⟨#[]⟩ ⟨#[]⟩ 0) := (Arr.al' (n := 2) (Arr.new ((w.alloc (.cells #[.string key, .string iv, .int .u64 q] 24)).alloc (.cells #[.int .i64 k, .string b] 26)) _ 24 (w.heap.size + 1 + 1) (by simp) _ 3 (sd3_at ⟨#[]⟩ ⟨#[]⟩ 0)) _)
  have A3 : Arr ((((w.alloc (.cells #[.string key, .string iv, .int .u64 q] 24)).alloc (.cells #[.int .i64 k, .string b] 26)).alloc (.cells #[.string ⟨#[]⟩, .string ⟨#[]⟩, .int .u64 0] 24)).alloc (.cells #[.int .i64 0, .string ⟨#[]⟩] 26)) (w.heap.size + 1 + 1 + 1) 2 (rc2 0 ⟨#[]⟩) := Arr.new (((w.alloc (.cells #[.string key, .string iv, .int .u64 q] 24)).alloc (.cells #[.int .i64 k, .string b] 26)).alloc (.cells #[.string ⟨#[]⟩, .string ⟨#[]⟩, .int .u64 0] 24)) _ 26 (w.heap.size + 1 + 1 + 1) (by simp) _ 2 (rc2_at 0 ⟨#[]⟩)
  have B0 : Below w.heap.size w ((((w.alloc (.cells #[.string key, .string iv, .int .u64 q] 24)).alloc (.cells #[.int .i64 k, .string b] 26)).alloc (.cells #[.string ⟨#[]⟩, .string ⟨#[]⟩, .int .u64 0] 24)).alloc (.cells #[.int .i64 0, .string ⟨#[]⟩] 26)) := by go_grown
  go_enter Tryz.func12, Tryz.ntmps12
  go_wp2_with fail
  refine (C2 _).mono ?_
  rintro e w1 ⟨rfl, b1⟩
  replace A0 : Arr _ _ 3 _ := A0.to' (n := 2) b1
  replace A1 : Arr _ _ 2 _ := A1.to' (n := 1) b1
  replace A2 : Arr _ _ 3 _ := A2.to' (n := 2) b1
  replace A3 : Arr _ _ 2 _ := A3.to' (n := 1) b1
  replace B0 := Bel.call B0 b1
  clear b1 C2
  obtain ⟨e0, e1, e2⟩ := A0.sd
  have m0 := A1.cv 0 (by omega) (.int .i64 k) rfl
  have m1 := A1.cv 1 (by omega) (.string b) rfl
  have c20 := A2.c 0 (by omega)
  have c21 := A2.c 1 (by omega)
  have c22 := A2.c 2 (by omega)
  have z20 := A2.z 0 (by omega)
  have z21 := A2.z 1 (by omega)
  have z22 := A2.z 2 (by omega)
  have c30 := A3.c 0 (by omega)
  have c31 := A3.c 1 (by omega)
  have z30 := A3.z 0 (by omega)
  have z31 := A3.z 1 (by omega)
  go_wp2_with fail
  have G2 := (A2.ssd key iv q).sreco (b' := w.heap.size + 1 + 1 + 1) (by omega) 0 ⟨#[]⟩
  have G3 := (A3.ssdo (b' := w.heap.size + 1 + 1) (by omega) key iv q).srec 0 ⟨#[]⟩
  have E := Bel.srec (Bel.ssd B0 (b := w.heap.size + 1 + 1) (by omega) key iv q) (b := w.heap.size + 1 + 1 + 1) (by omega) 0 ⟨#[]⟩
  clear c20 c21 c22 c30 c31 z20 z21 z22 z30 z31
  obtain ⟨g0, g1, g2⟩ := G2.sd
  have g3 := G3.cv 0 (by omega) (.int .i64 0) rfl
  have g4 := G3.cv 1 (by omega) (.string ⟨#[]⟩) rfl
  unfold srec ssd at g0 g1 g2 g3 g4 E
  refine bodyPost_ret (v := .tuple #[sdV key iv q, rcV 0 ⟨#[]⟩, .int .i64 r]) ?_ rfl ⟨rfl, E⟩
  simp [sdV, rcV, results, Tryz.results12, go_sem, g0, g1, g2, g3, g4]
set_option maxHeartbeats 2000000 in
theorem Unprotect_2 (key iv b : ByteArray) (k q : Int) (hk : ¬ k = 23) (w : World)
    (C2 : ∀ W, Calls Tryz.prog 18 #[sdV key iv q] W fun e w' => ∃ d, e = .returned (.tuple #[.pointer (some ⟨d, 0, none⟩), .int .i64 0]) ∧ W.heap.size ≤ d ∧ Arr w' d 3 (sd3 key iv q) ∧ Below W.heap.size W w') :
    Calls Tryz.prog 12 #[sdV key iv q, rcV k b] w fun e w' => e = .returned (.tuple #[sdV key iv q, rcV 0 ⟨#[]⟩, .int .i64 23]) ∧ Below w.heap.size w w' := by
  unfold sdV rcV at *
  have A0 : Arr ((((w.alloc (.cells #[.string key, .string iv, .int .u64 q] 24)).alloc (.cells #[.int .i64 k, .string b] 26)).alloc (.cells #[.string ⟨#[]⟩, .string ⟨#[]⟩, .int .u64 0] 24)).alloc (.cells #[.int .i64 0, .string ⟨#[]⟩] 26)) w.heap.size 3 (sd3 key iv q) := (Arr.al' (n := 2) (Arr.al' (n := 2) (Arr.al' (n := 2) (Arr.new w _ 24 _ rfl _ 3 (sd3_at key iv q)) _) _) _)
  have A1 : Arr ((((w.alloc (.cells #[.string key, .string iv, .int .u64 q] 24)).alloc (.cells #[.int .i64 k, .string b] 26)).alloc (.cells #[.string ⟨#[]⟩, .string ⟨#[]⟩, .int .u64 0] 24)).alloc (.cells #[.int .i64 0, .string ⟨#[]⟩] 26)) (w.heap.size + 1) 2 (rc2 k b) := (Arr.al' (n := 1) (Arr.al' (n := 1) (Arr.new (w.alloc (.cells #[.string key, .string iv, .int .u64 q] 24)) _ 26 (w.heap.size + 1) (by simp) _ 2 (rc2_at k b)) _) _)
  have A2 : Arr ((((w.alloc (.cells #[.string key, .string iv, .int .u64 q] 24)).alloc (.cells #[.int .i64 k, .string b] 26)).alloc (.cells #[.string ⟨#[]⟩, .string ⟨#[]⟩, .int .u64 0] 24)).alloc (.cells #[.int .i64 0, .string ⟨#[]⟩] 26)) (w.heap.size + 1 + 1) 3 (sd3 ⟨#[]⟩ ⟨#[]⟩ 0) := (Arr.al' (n := 2) (Arr.new ((w.alloc (.cells #[.string key, .string iv, .int .u64 q] 24)).alloc (.cells #[.int .i64 k, .string b] 26)) _ 24 (w.heap.size + 1 + 1) (by simp) _ 3 (sd3_at ⟨#[]⟩ ⟨#[]⟩ 0)) _)
  have A3 : Arr ((((w.alloc (.cells #[.string key, .string iv, .int .u64 q] 24)).alloc (.cells #[.int .i64 k, .string b] 26)).alloc (.cells #[.string ⟨#[]⟩, .string ⟨#[]⟩, .int .u64 0] 24)).alloc (.cells #[.int .i64 0, .string ⟨#[]⟩] 26)) (w.heap.size + 1 + 1 + 1) 2 (rc2 0 ⟨#[]⟩) := Arr.new (((w.alloc (.cells #[.string key, .string iv, .int .u64 q] 24)).alloc (.cells #[.int .i64 k, .string b] 26)).alloc (.cells #[.string ⟨#[]⟩, .string ⟨#[]⟩, .int .u64 0] 24)) _ 26 (w.heap.size + 1 + 1 + 1) (by simp) _ 2 (rc2_at 0 ⟨#[]⟩)
  have B0 : Below w.heap.size w ((((w.alloc (.cells #[.string key, .string iv, .int .u64 q] 24)).alloc (.cells #[.int .i64 k, .string b] 26)).alloc (.cells #[.string ⟨#[]⟩, .string ⟨#[]⟩, .int .u64 0] 24)).alloc (.cells #[.int .i64 0, .string ⟨#[]⟩] 26)) := by go_grown
  go_enter Tryz.func12, Tryz.ntmps12
  go_wp2_with fail
  refine (C2 _).mono ?_
  rintro e w1 ⟨d, rfl, hd, D, b1⟩
  replace A0 : Arr _ _ 3 _ := A0.to' (n := 2) b1
  replace A1 : Arr _ _ 2 _ := A1.to' (n := 1) b1
  replace A2 : Arr _ _ 3 _ := A2.to' (n := 2) b1
  replace A3 : Arr _ _ 2 _ := A3.to' (n := 1) b1
  replace B0 := Bel.call B0 b1
  clear b1 C2
  obtain ⟨e0, e1, e2⟩ := A0.sd
  have m0 := A1.cv 0 (by omega) (.int .i64 k) rfl
  have m1 := A1.cv 1 (by omega) (.string b) rfl
  have c20 := A2.c 0 (by omega)
  have c21 := A2.c 1 (by omega)
  have c22 := A2.c 2 (by omega)
  have z20 := A2.z 0 (by omega)
  have z21 := A2.z 1 (by omega)
  have z22 := A2.z 2 (by omega)
  have c30 := A3.c 0 (by omega)
  have c31 := A3.c 1 (by omega)
  have z30 := A3.z 0 (by omega)
  have z31 := A3.z 1 (by omega)
  go_wp2_with fail
  have G2 := (A2.ssd key iv q).sreco (b' := w.heap.size + 1 + 1 + 1) (by omega) 0 ⟨#[]⟩
  have G3 := (A3.ssdo (b' := w.heap.size + 1 + 1) (by omega) key iv q).srec 0 ⟨#[]⟩
  have E := Bel.srec (Bel.ssd B0 (b := w.heap.size + 1 + 1) (by omega) key iv q) (b := w.heap.size + 1 + 1 + 1) (by omega) 0 ⟨#[]⟩
  clear c20 c21 c22 c30 c31 z20 z21 z22 z30 z31
  obtain ⟨g0, g1, g2⟩ := G2.sd
  have g3 := G3.cv 0 (by omega) (.int .i64 0) rfl
  have g4 := G3.cv 1 (by omega) (.string ⟨#[]⟩) rfl
  unfold srec ssd at g0 g1 g2 g3 g4 E
  refine bodyPost_ret (v := .tuple #[sdV key iv q, rcV 0 ⟨#[]⟩, .int .i64 23]) ?_ rfl ⟨rfl, E⟩
  simp [sdV, rcV, results, Tryz.results12, go_sem, g0, g1, g2, g3, g4]
set_option maxHeartbeats 2000000 in
theorem Unprotect_3 (key iv b t : ByteArray) (q k r : Int) (hk : k = 23) (hr : ¬ r = 0) (w : World)
    (C2 : ∀ W, Calls Tryz.prog 18 #[sdV key iv q] W fun e w' => ∃ d, e = .returned (.tuple #[.pointer (some ⟨d, 0, none⟩), .int .i64 0]) ∧ W.heap.size ≤ d ∧ Arr w' d 3 (sd3 key iv q) ∧ Below W.heap.size W w')
    (C3 : ∀ W d, Arr W d 3 (sd3 key iv q) → Calls Tryz.prog 25 #[.pointer (some ⟨d, 0, none⟩), .string b] W fun e w' => e = .returned (.tuple #[.string t, .int .i64 r]) ∧ Below W.heap.size W w') :
    Calls Tryz.prog 12 #[sdV key iv q, rcV k b] w fun e w' => e = .returned (.tuple #[sdV key iv q, rcV 0 ⟨#[]⟩, .int .i64 r]) ∧ Below w.heap.size w w' := by
  subst hk
  unfold sdV rcV at *
  have A0 : Arr ((((w.alloc (.cells #[.string key, .string iv, .int .u64 q] 24)).alloc (.cells #[.int .i64 23, .string b] 26)).alloc (.cells #[.string ⟨#[]⟩, .string ⟨#[]⟩, .int .u64 0] 24)).alloc (.cells #[.int .i64 0, .string ⟨#[]⟩] 26)) w.heap.size 3 (sd3 key iv q) := (Arr.al' (n := 2) (Arr.al' (n := 2) (Arr.al' (n := 2) (Arr.new w _ 24 _ rfl _ 3 (sd3_at key iv q)) _) _) _)
  have A1 : Arr ((((w.alloc (.cells #[.string key, .string iv, .int .u64 q] 24)).alloc (.cells #[.int .i64 23, .string b] 26)).alloc (.cells #[.string ⟨#[]⟩, .string ⟨#[]⟩, .int .u64 0] 24)).alloc (.cells #[.int .i64 0, .string ⟨#[]⟩] 26)) (w.heap.size + 1) 2 (rc2 23 b) := (Arr.al' (n := 1) (Arr.al' (n := 1) (Arr.new (w.alloc (.cells #[.string key, .string iv, .int .u64 q] 24)) _ 26 (w.heap.size + 1) (by simp) _ 2 (rc2_at 23 b)) _) _)
  have A2 : Arr ((((w.alloc (.cells #[.string key, .string iv, .int .u64 q] 24)).alloc (.cells #[.int .i64 23, .string b] 26)).alloc (.cells #[.string ⟨#[]⟩, .string ⟨#[]⟩, .int .u64 0] 24)).alloc (.cells #[.int .i64 0, .string ⟨#[]⟩] 26)) (w.heap.size + 1 + 1) 3 (sd3 ⟨#[]⟩ ⟨#[]⟩ 0) := (Arr.al' (n := 2) (Arr.new ((w.alloc (.cells #[.string key, .string iv, .int .u64 q] 24)).alloc (.cells #[.int .i64 23, .string b] 26)) _ 24 (w.heap.size + 1 + 1) (by simp) _ 3 (sd3_at ⟨#[]⟩ ⟨#[]⟩ 0)) _)
  have A3 : Arr ((((w.alloc (.cells #[.string key, .string iv, .int .u64 q] 24)).alloc (.cells #[.int .i64 23, .string b] 26)).alloc (.cells #[.string ⟨#[]⟩, .string ⟨#[]⟩, .int .u64 0] 24)).alloc (.cells #[.int .i64 0, .string ⟨#[]⟩] 26)) (w.heap.size + 1 + 1 + 1) 2 (rc2 0 ⟨#[]⟩) := Arr.new (((w.alloc (.cells #[.string key, .string iv, .int .u64 q] 24)).alloc (.cells #[.int .i64 23, .string b] 26)).alloc (.cells #[.string ⟨#[]⟩, .string ⟨#[]⟩, .int .u64 0] 24)) _ 26 (w.heap.size + 1 + 1 + 1) (by simp) _ 2 (rc2_at 0 ⟨#[]⟩)
  have B0 : Below w.heap.size w ((((w.alloc (.cells #[.string key, .string iv, .int .u64 q] 24)).alloc (.cells #[.int .i64 23, .string b] 26)).alloc (.cells #[.string ⟨#[]⟩, .string ⟨#[]⟩, .int .u64 0] 24)).alloc (.cells #[.int .i64 0, .string ⟨#[]⟩] 26)) := by go_grown
  go_enter Tryz.func12, Tryz.ntmps12
  go_wp2_with fail
  refine (C2 _).mono ?_
  rintro e w1 ⟨d, rfl, hd, D, b1⟩
  replace A0 : Arr _ _ 3 _ := A0.to' (n := 2) b1
  replace A1 : Arr _ _ 2 _ := A1.to' (n := 1) b1
  replace A2 : Arr _ _ 3 _ := A2.to' (n := 2) b1
  replace A3 : Arr _ _ 2 _ := A3.to' (n := 1) b1
  replace B0 := Bel.call B0 b1
  clear b1 C2
  obtain ⟨e0, e1, e2⟩ := A0.sd
  have m0 := A1.cv 0 (by omega) (.int .i64 23) rfl
  have m1 := A1.cv 1 (by omega) (.string b) rfl
  go_wp2_with fail
  refine (C3 _ d D).mono ?_
  rintro e w2 ⟨rfl, b3⟩
  replace D : Arr _ _ 3 _ := D.to' (n := 2) b3
  replace A0 : Arr _ _ 3 _ := A0.to' (n := 2) b3
  replace A1 : Arr _ _ 2 _ := A1.to' (n := 1) b3
  replace A2 : Arr _ _ 3 _ := A2.to' (n := 2) b3
  replace A3 : Arr _ _ 2 _ := A3.to' (n := 1) b3
  replace B0 := Bel.call B0 b3
  clear b3 C3 e0 e1 e2 m0 m1
  obtain ⟨e0, e1, e2⟩ := A0.sd
  have m0 := A1.cv 0 (by omega) (.int .i64 23) rfl
  have m1 := A1.cv 1 (by omega) (.string b) rfl
  have c20 := A2.c 0 (by omega)
  have c21 := A2.c 1 (by omega)
  have c22 := A2.c 2 (by omega)
  have z20 := A2.z 0 (by omega)
  have z21 := A2.z 1 (by omega)
  have z22 := A2.z 2 (by omega)
  have c30 := A3.c 0 (by omega)
  have c31 := A3.c 1 (by omega)
  have z30 := A3.z 0 (by omega)
  have z31 := A3.z 1 (by omega)
  go_wp2_with fail
  have G2 := (A2.ssd key iv q).sreco (b' := w.heap.size + 1 + 1 + 1) (by omega) 0 ⟨#[]⟩
  have G3 := (A3.ssdo (b' := w.heap.size + 1 + 1) (by omega) key iv q).srec 0 ⟨#[]⟩
  have E := Bel.srec (Bel.ssd B0 (b := w.heap.size + 1 + 1) (by omega) key iv q) (b := w.heap.size + 1 + 1 + 1) (by omega) 0 ⟨#[]⟩
  clear c20 c21 c22 c30 c31 z20 z21 z22 z30 z31
  obtain ⟨g0, g1, g2⟩ := G2.sd
  have g3 := G3.cv 0 (by omega) (.int .i64 0) rfl
  have g4 := G3.cv 1 (by omega) (.string ⟨#[]⟩) rfl
  unfold srec ssd at g0 g1 g2 g3 g4 E
  refine bodyPost_ret (v := .tuple #[sdV key iv q, rcV 0 ⟨#[]⟩, .int .i64 r]) ?_ rfl ⟨rfl, E⟩
  simp [sdV, rcV, results, Tryz.results12, go_sem, g0, g1, g2, g3, g4]
set_option maxHeartbeats 2000000 in
theorem Unprotect_4 (key iv b t b2 : ByteArray) (q k k2 r : Int) (hk : k = 23) (hr : ¬ r = 0) (w : World)
    (C2 : ∀ W, Calls Tryz.prog 18 #[sdV key iv q] W fun e w' => ∃ d, e = .returned (.tuple #[.pointer (some ⟨d, 0, none⟩), .int .i64 0]) ∧ W.heap.size ≤ d ∧ Arr w' d 3 (sd3 key iv q) ∧ Below W.heap.size W w')
    (C3 : ∀ W d, Arr W d 3 (sd3 key iv q) → Calls Tryz.prog 25 #[.pointer (some ⟨d, 0, none⟩), .string b] W fun e w' => e = .returned (.tuple #[.string t, .int .i64 0]) ∧ Below W.heap.size W w')
    (C4 : ∀ W, Calls Tryz.prog 26 #[.string t] W fun e w' => e = .returned (.tuple #[rcV k2 b2, .int .i64 r]) ∧ Below W.heap.size W w') :
    Calls Tryz.prog 12 #[sdV key iv q, rcV k b] w fun e w' => e = .returned (.tuple #[sdV key iv q, rcV 0 ⟨#[]⟩, .int .i64 r]) ∧ Below w.heap.size w w' := by
  subst hk
  unfold sdV rcV at *
  have A0 : Arr ((((w.alloc (.cells #[.string key, .string iv, .int .u64 q] 24)).alloc (.cells #[.int .i64 23, .string b] 26)).alloc (.cells #[.string ⟨#[]⟩, .string ⟨#[]⟩, .int .u64 0] 24)).alloc (.cells #[.int .i64 0, .string ⟨#[]⟩] 26)) w.heap.size 3 (sd3 key iv q) := (Arr.al' (n := 2) (Arr.al' (n := 2) (Arr.al' (n := 2) (Arr.new w _ 24 _ rfl _ 3 (sd3_at key iv q)) _) _) _)
  have A1 : Arr ((((w.alloc (.cells #[.string key, .string iv, .int .u64 q] 24)).alloc (.cells #[.int .i64 23, .string b] 26)).alloc (.cells #[.string ⟨#[]⟩, .string ⟨#[]⟩, .int .u64 0] 24)).alloc (.cells #[.int .i64 0, .string ⟨#[]⟩] 26)) (w.heap.size + 1) 2 (rc2 23 b) := (Arr.al' (n := 1) (Arr.al' (n := 1) (Arr.new (w.alloc (.cells #[.string key, .string iv, .int .u64 q] 24)) _ 26 (w.heap.size + 1) (by simp) _ 2 (rc2_at 23 b)) _) _)
  have A2 : Arr ((((w.alloc (.cells #[.string key, .string iv, .int .u64 q] 24)).alloc (.cells #[.int .i64 23, .string b] 26)).alloc (.cells #[.string ⟨#[]⟩, .string ⟨#[]⟩, .int .u64 0] 24)).alloc (.cells #[.int .i64 0, .string ⟨#[]⟩] 26)) (w.heap.size + 1 + 1) 3 (sd3 ⟨#[]⟩ ⟨#[]⟩ 0) := (Arr.al' (n := 2) (Arr.new ((w.alloc (.cells #[.string key, .string iv, .int .u64 q] 24)).alloc (.cells #[.int .i64 23, .string b] 26)) _ 24 (w.heap.size + 1 + 1) (by simp) _ 3 (sd3_at ⟨#[]⟩ ⟨#[]⟩ 0)) _)
  have A3 : Arr ((((w.alloc (.cells #[.string key, .string iv, .int .u64 q] 24)).alloc (.cells #[.int .i64 23, .string b] 26)).alloc (.cells #[.string ⟨#[]⟩, .string ⟨#[]⟩, .int .u64 0] 24)).alloc (.cells #[.int .i64 0, .string ⟨#[]⟩] 26)) (w.heap.size + 1 + 1 + 1) 2 (rc2 0 ⟨#[]⟩) := Arr.new (((w.alloc (.cells #[.string key, .string iv, .int .u64 q] 24)).alloc (.cells #[.int .i64 23, .string b] 26)).alloc (.cells #[.string ⟨#[]⟩, .string ⟨#[]⟩, .int .u64 0] 24)) _ 26 (w.heap.size + 1 + 1 + 1) (by simp) _ 2 (rc2_at 0 ⟨#[]⟩)
  have B0 : Below w.heap.size w ((((w.alloc (.cells #[.string key, .string iv, .int .u64 q] 24)).alloc (.cells #[.int .i64 23, .string b] 26)).alloc (.cells #[.string ⟨#[]⟩, .string ⟨#[]⟩, .int .u64 0] 24)).alloc (.cells #[.int .i64 0, .string ⟨#[]⟩] 26)) := by go_grown
  go_enter Tryz.func12, Tryz.ntmps12
  go_wp2_with fail
  refine (C2 _).mono ?_
  rintro e w1 ⟨d, rfl, hd, D, b1⟩
  replace A0 : Arr _ _ 3 _ := A0.to' (n := 2) b1
  replace A1 : Arr _ _ 2 _ := A1.to' (n := 1) b1
  replace A2 : Arr _ _ 3 _ := A2.to' (n := 2) b1
  replace A3 : Arr _ _ 2 _ := A3.to' (n := 1) b1
  replace B0 := Bel.call B0 b1
  clear b1 C2
  obtain ⟨e0, e1, e2⟩ := A0.sd
  have m0 := A1.cv 0 (by omega) (.int .i64 23) rfl
  have m1 := A1.cv 1 (by omega) (.string b) rfl
  go_wp2_with fail
  refine (C3 _ d D).mono ?_
  rintro e w2 ⟨rfl, b3⟩
  replace D : Arr _ _ 3 _ := D.to' (n := 2) b3
  replace A0 : Arr _ _ 3 _ := A0.to' (n := 2) b3
  replace A1 : Arr _ _ 2 _ := A1.to' (n := 1) b3
  replace A2 : Arr _ _ 3 _ := A2.to' (n := 2) b3
  replace A3 : Arr _ _ 2 _ := A3.to' (n := 1) b3
  replace B0 := Bel.call B0 b3
  clear b3 C3 e0 e1 e2 m0 m1
  go_wp2_with fail
  refine (C4 _).mono ?_
  rintro e w3 ⟨rfl, b4⟩
  replace D : Arr _ _ 3 _ := D.to' (n := 2) b4
  have hdi := D.lt (n := 2)
  replace A0 : Arr _ _ 3 _ := A0.to' (n := 2) b4
  replace A1 : Arr _ _ 2 _ := A1.to' (n := 1) b4
  replace A2 : Arr _ _ 3 _ := A2.to' (n := 2) b4
  replace A3 : Arr _ _ 2 _ := A3.to' (n := 1) b4
  replace B0 := Bel.call B0 b4
  clear b4 C4
  replace A0 : Arr _ _ 3 _ := A0.al' (n := 2) (.cells #[.int .i64 k2, .string b2] 26)
  replace A1 : Arr _ _ 2 _ := A1.al' (n := 1) (.cells #[.int .i64 k2, .string b2] 26)
  replace A2 : Arr _ _ 3 _ := A2.al' (n := 2) (.cells #[.int .i64 k2, .string b2] 26)
  replace A3 : Arr _ _ 2 _ := A3.al' (n := 1) (.cells #[.int .i64 k2, .string b2] 26)
  replace D : Arr _ _ 3 _ := D.al' (n := 2) (.cells #[.int .i64 k2, .string b2] 26)
  have I0 := Arr.new w3 _ 26 _ rfl _ 2 (rc2_at k2 b2)
  replace B0 := Bel.al B0 (.cells #[.int .i64 k2, .string b2] 26)
  obtain ⟨e0, e1, e2⟩ := A0.sd
  have m0 := A1.cv 0 (by omega) (.int .i64 23) rfl
  have m1 := A1.cv 1 (by omega) (.string b) rfl
  have c20 := A2.c 0 (by omega)
  have c21 := A2.c 1 (by omega)
  have c22 := A2.c 2 (by omega)
  have z20 := A2.z 0 (by omega)
  have z21 := A2.z 1 (by omega)
  have z22 := A2.z 2 (by omega)
  have c30 := A3.c 0 (by omega)
  have c31 := A3.c 1 (by omega)
  have z30 := A3.z 0 (by omega)
  have z31 := A3.z 1 (by omega)
  go_wp2_with fail
  have G2 := (A2.ssd key iv q).sreco (b' := w.heap.size + 1 + 1 + 1) (by omega) 0 ⟨#[]⟩
  have G3 := (A3.ssdo (b' := w.heap.size + 1 + 1) (by omega) key iv q).srec 0 ⟨#[]⟩
  have E := Bel.srec (Bel.ssd B0 (b := w.heap.size + 1 + 1) (by omega) key iv q) (b := w.heap.size + 1 + 1 + 1) (by omega) 0 ⟨#[]⟩
  clear c20 c21 c22 c30 c31 z20 z21 z22 z30 z31
  obtain ⟨g0, g1, g2⟩ := G2.sd
  have g3 := G3.cv 0 (by omega) (.int .i64 0) rfl
  have g4 := G3.cv 1 (by omega) (.string ⟨#[]⟩) rfl
  unfold srec ssd at g0 g1 g2 g3 g4 E
  refine bodyPost_ret (v := .tuple #[sdV key iv q, rcV 0 ⟨#[]⟩, .int .i64 r]) ?_ rfl ⟨rfl, E⟩
  simp [sdV, rcV, results, Tryz.results12, go_sem, g0, g1, g2, g3, g4]
set_option maxHeartbeats 2000000 in
theorem Unprotect_5 (key iv b t b2 : ByteArray) (q k k2 : Int) (hk : k = 23) (q0 : 0 ≤ q) (q1 : q < 18446744073709551615) (w : World)
    (C2 : ∀ W, Calls Tryz.prog 18 #[sdV key iv q] W fun e w' => ∃ d, e = .returned (.tuple #[.pointer (some ⟨d, 0, none⟩), .int .i64 0]) ∧ W.heap.size ≤ d ∧ Arr w' d 3 (sd3 key iv q) ∧ Below W.heap.size W w')
    (C3 : ∀ W d, Arr W d 3 (sd3 key iv q) → Calls Tryz.prog 25 #[.pointer (some ⟨d, 0, none⟩), .string b] W fun e w' => e = .returned (.tuple #[.string t, .int .i64 0]) ∧ Below W.heap.size W w')
    (C4 : ∀ W, Calls Tryz.prog 26 #[.string t] W fun e w' => e = .returned (.tuple #[rcV k2 b2, .int .i64 0]) ∧ Below W.heap.size W w') :
    Calls Tryz.prog 12 #[sdV key iv q, rcV k b] w fun e w' => e = .returned (.tuple #[sdV key iv (q + 1), rcV k2 b2, .int .i64 0]) ∧ Below w.heap.size w w' := by
  subst hk
  unfold sdV rcV at *
  have A0 : Arr ((((w.alloc (.cells #[.string key, .string iv, .int .u64 q] 24)).alloc (.cells #[.int .i64 23, .string b] 26)).alloc (.cells #[.string ⟨#[]⟩, .string ⟨#[]⟩, .int .u64 0] 24)).alloc (.cells #[.int .i64 0, .string ⟨#[]⟩] 26)) w.heap.size 3 (sd3 key iv q) := (Arr.al' (n := 2) (Arr.al' (n := 2) (Arr.al' (n := 2) (Arr.new w _ 24 _ rfl _ 3 (sd3_at key iv q)) _) _) _)
  have A1 : Arr ((((w.alloc (.cells #[.string key, .string iv, .int .u64 q] 24)).alloc (.cells #[.int .i64 23, .string b] 26)).alloc (.cells #[.string ⟨#[]⟩, .string ⟨#[]⟩, .int .u64 0] 24)).alloc (.cells #[.int .i64 0, .string ⟨#[]⟩] 26)) (w.heap.size + 1) 2 (rc2 23 b) := (Arr.al' (n := 1) (Arr.al' (n := 1) (Arr.new (w.alloc (.cells #[.string key, .string iv, .int .u64 q] 24)) _ 26 (w.heap.size + 1) (by simp) _ 2 (rc2_at 23 b)) _) _)
  have A2 : Arr ((((w.alloc (.cells #[.string key, .string iv, .int .u64 q] 24)).alloc (.cells #[.int .i64 23, .string b] 26)).alloc (.cells #[.string ⟨#[]⟩, .string ⟨#[]⟩, .int .u64 0] 24)).alloc (.cells #[.int .i64 0, .string ⟨#[]⟩] 26)) (w.heap.size + 1 + 1) 3 (sd3 ⟨#[]⟩ ⟨#[]⟩ 0) := (Arr.al' (n := 2) (Arr.new ((w.alloc (.cells #[.string key, .string iv, .int .u64 q] 24)).alloc (.cells #[.int .i64 23, .string b] 26)) _ 24 (w.heap.size + 1 + 1) (by simp) _ 3 (sd3_at ⟨#[]⟩ ⟨#[]⟩ 0)) _)
  have A3 : Arr ((((w.alloc (.cells #[.string key, .string iv, .int .u64 q] 24)).alloc (.cells #[.int .i64 23, .string b] 26)).alloc (.cells #[.string ⟨#[]⟩, .string ⟨#[]⟩, .int .u64 0] 24)).alloc (.cells #[.int .i64 0, .string ⟨#[]⟩] 26)) (w.heap.size + 1 + 1 + 1) 2 (rc2 0 ⟨#[]⟩) := Arr.new (((w.alloc (.cells #[.string key, .string iv, .int .u64 q] 24)).alloc (.cells #[.int .i64 23, .string b] 26)).alloc (.cells #[.string ⟨#[]⟩, .string ⟨#[]⟩, .int .u64 0] 24)) _ 26 (w.heap.size + 1 + 1 + 1) (by simp) _ 2 (rc2_at 0 ⟨#[]⟩)
  have B0 : Below w.heap.size w ((((w.alloc (.cells #[.string key, .string iv, .int .u64 q] 24)).alloc (.cells #[.int .i64 23, .string b] 26)).alloc (.cells #[.string ⟨#[]⟩, .string ⟨#[]⟩, .int .u64 0] 24)).alloc (.cells #[.int .i64 0, .string ⟨#[]⟩] 26)) := by go_grown
  go_enter Tryz.func12, Tryz.ntmps12
  go_wp2_with fail
  refine (C2 _).mono ?_
  rintro e w1 ⟨d, rfl, hd, D, b1⟩
  replace A0 : Arr _ _ 3 _ := A0.to' (n := 2) b1
  replace A1 : Arr _ _ 2 _ := A1.to' (n := 1) b1
  replace A2 : Arr _ _ 3 _ := A2.to' (n := 2) b1
  replace A3 : Arr _ _ 2 _ := A3.to' (n := 1) b1
  replace B0 := Bel.call B0 b1
  clear b1 C2
  obtain ⟨e0, e1, e2⟩ := A0.sd
  have m0 := A1.cv 0 (by omega) (.int .i64 23) rfl
  have m1 := A1.cv 1 (by omega) (.string b) rfl
  go_wp2_with fail
  refine (C3 _ d D).mono ?_
  rintro e w2 ⟨rfl, b3⟩
  replace D : Arr _ _ 3 _ := D.to' (n := 2) b3
  replace A0 : Arr _ _ 3 _ := A0.to' (n := 2) b3
  replace A1 : Arr _ _ 2 _ := A1.to' (n := 1) b3
  replace A2 : Arr _ _ 3 _ := A2.to' (n := 2) b3
  replace A3 : Arr _ _ 2 _ := A3.to' (n := 1) b3
  replace B0 := Bel.call B0 b3
  clear b3 C3 e0 e1 e2 m0 m1
  go_wp2_with fail
  refine (C4 _).mono ?_
  rintro e w3 ⟨rfl, b4⟩
  replace D : Arr _ _ 3 _ := D.to' (n := 2) b4
  have hdi := D.lt (n := 2)
  replace A0 : Arr _ _ 3 _ := A0.to' (n := 2) b4
  replace A1 : Arr _ _ 2 _ := A1.to' (n := 1) b4
  replace A2 : Arr _ _ 3 _ := A2.to' (n := 2) b4
  replace A3 : Arr _ _ 2 _ := A3.to' (n := 1) b4
  replace B0 := Bel.call B0 b4
  clear b4 C4
  replace A0 : Arr _ _ 3 _ := A0.al' (n := 2) (.cells #[.int .i64 k2, .string b2] 26)
  replace A1 : Arr _ _ 2 _ := A1.al' (n := 1) (.cells #[.int .i64 k2, .string b2] 26)
  replace A2 : Arr _ _ 3 _ := A2.al' (n := 2) (.cells #[.int .i64 k2, .string b2] 26)
  replace A3 : Arr _ _ 2 _ := A3.al' (n := 1) (.cells #[.int .i64 k2, .string b2] 26)
  replace D : Arr _ _ 3 _ := D.al' (n := 2) (.cells #[.int .i64 k2, .string b2] 26)
  have I0 := Arr.new w3 _ 26 _ rfl _ 2 (rc2_at k2 b2)
  replace B0 := Bel.al B0 (.cells #[.int .i64 k2, .string b2] 26)
  replace hd : w.heap.size + 1 + 1 + 1 + 1 ≤ d := by simpa using hd
  go_wp2_with fail
  generalize w3.alloc (.cells #[.int .i64 k2, .string b2] 26) = w4 at *
  generalize w3.heap.size = ib at *
  have I1 := I0.cv 0 (by omega) (.int .i64 k2) rfl
  have I2 := I0.cv 1 (by omega) (.string b2) rfl
  have hA2 := A2.lt (n := 2)
  have hA3 := A3.lt (n := 1)
  have hI0 := I0.lt (n := 1)
  clear A0 A1
  have K : ∀ w5, Below w4.heap.size (w4.drew.setCell ⟨d, 2, none⟩ (.int .u64 (q + 1))) w5 → Arr w5 (w.heap.size + 1 + 1) 3 (sd3 ⟨#[]⟩ ⟨#[]⟩ 0) ∧ Arr w5 (w.heap.size + 1 + 1 + 1) 2 (rc2 0 ⟨#[]⟩) ∧ Arr w5 ib 2 (rc2 k2 b2) ∧ Below w.heap.size w w5 := fun w5 b5 =>
    ⟨(A2.drew.other (b' := d) (k := 2) (by omega) (.int .u64 (q + 1))).below b5 hA2, (A3.drew.other (b' := d) (k := 2) (by omega) (.int .u64 (q + 1))).below b5 hA3, (I0.drew.other (b' := d) (k := 2) (by omega) (.int .u64 (q + 1))).below b5 hI0, ((B0.drew).setCell (p := ⟨d, 2, none⟩) (by show w.heap.size ≤ d; omega) _).trans (b5.mono B0.size)⟩
  clear A2 A3 I0 B0
  go_region_with (go_at_call 21; refine (goneOn_all d key iv q q0 q1 w4.drew D.drew).mono ?_; rintro e w5 ⟨rfl, b5⟩; obtain ⟨J2, J3, J0, B5⟩ := K w5 b5; clear K b5; have i1 := J0.cv 0 (by omega) (.int .i64 k2) rfl; have i2 := J0.cv 1 (by omega) (.string b2) rfl; have c20 := J2.c 0 (by omega); have c21 := J2.c 1 (by omega); have c22 := J2.c 2 (by omega); have z20 := J2.z 0 (by omega); have z21 := J2.z 1 (by omega); have z22 := J2.z 2 (by omega); have c30 := J3.c 0 (by omega); have c31 := J3.c 1 (by omega); have z30 := J3.z 0 (by omega); have z31 := J3.z 1 (by omega); unfold sdV)
  all_goals (
    go_wp2_with fail
    have G2 := (J2.ssd key iv (q + 1)).sreco (b' := w.heap.size + 1 + 1 + 1) (by omega) k2 b2
    have G3 := (J3.ssdo (b' := w.heap.size + 1 + 1) (by omega) key iv (q + 1)).srec k2 b2
    have E := Bel.srec (Bel.ssd B5 (b := w.heap.size + 1 + 1) (by omega) key iv (q + 1)) (b := w.heap.size + 1 + 1 + 1) (by omega) k2 b2
    clear c20 c21 c22 c30 c31 z20 z21 z22 z30 z31
    obtain ⟨g0, g1, g2⟩ := G2.sd
    have g3 := G3.cv 0 (by omega) (.int .i64 k2) rfl
    have g4 := G3.cv 1 (by omega) (.string b2) rfl
    unfold srec ssd at g0 g1 g2 g3 g4 E
    refine bodyPost_ret (v := .tuple #[sdV key iv (q + 1), rcV k2 b2, .int .i64 0]) ?_ rfl ⟨rfl, E⟩
    simp [sdV, rcV, results, Tryz.results12, go_sem, g0, g1, g2, g3, g4])
/-- What Unprotect tells. -/
def upE (key iv : ByteArray) (q k : Int) (b : ByteArray) : Int := if diE key iv q = 0 then (if k = 23 then (if oqE key (noS iv q) (hdS 23 (b.size : Int)) b = 0 then wiE (oqS key (noS iv q) (hdS 23 (b.size : Int)) b) else oqE key (noS iv q) (hdS 23 (b.size : Int)) b) else 23) else diE key iv q
def upQ (key iv : ByteArray) (q k : Int) (b : ByteArray) : Int := if upE key iv q k b = 0 then q + 1 else q
def upV (key iv : ByteArray) (q k : Int) (b : ByteArray) : Value := if upE key iv q k b = 0 then wiV (oqS key (noS iv q) (hdS 23 (b.size : Int)) b) else rcV 0 ⟨#[]⟩
theorem oqS_size (key n ad s : ByteArray) : (oqS key n ad s).size ≤ 65552 := by
  unfold oqS
  split
  · decide
  · rename_i h
    unfold opS
    split
    · rename_i h2
      rw [crS_size]
      unfold cut1
      rw [ByteArray.size_extract]
      by_cases c : 65552 < s.size
      · have : ¬ rfg key n = 0 := fun e => h ⟨e, c⟩
        exfalso
        unfold opE at h2
        rw [if_neg this] at h2
        exact this h2
      · omega
    · decide
theorem wiV_is (s : ByteArray) : ∃ k b, wiV s = rcV k b := by
  unfold wiV
  split
  · exact ⟨_, _, rfl⟩
  · exact ⟨_, _, rfl⟩
theorem Unprotect_any (key iv b : ByteArray) (k q : Int) (q0 : 0 ≤ q) (q1 : q < 18446744073709551616) (w : World) :
    Calls Tryz.prog 12 #[sdV key iv q, rcV k b] w fun e w' => e = .returned (.tuple #[sdV key iv (upQ key iv q k b), upV key iv q k b, .int .i64 (upE key iv q k b)]) ∧ Below w.heap.size w w' := by
  have CN := fun W => Nonce_any key iv q q0 q1 W
  by_cases h2 : noE key iv = 0
  · obtain ⟨hk, hi⟩ := noE_0 h2
    have eN : noR key iv q = noS iv q := by unfold noR; rw [if_pos h2]
    rw [h2, eN] at CN
    by_cases h3 : q = 18446744073709551615
    · have d : diE key iv q = 18 := by unfold diE; rw [if_pos h2, if_pos h3]
      have e : upE key iv q k b = 18 := by unfold upE; rw [d, if_neg (by decide)]
      unfold upQ upV
      rw [e, if_neg (by decide), if_neg (by decide)]
      exact Unprotect_1 key iv b k q 18 (by decide) w (fun W => directionOf_2 key iv _ q h3 W CN)
    · have d : diE key iv q = 0 := by unfold diE; rw [if_pos h2, if_neg h3]
      have C2 := fun W => directionOf_3 key iv _ q h3 W CN
      by_cases h4 : k = 23
      · have C3 : ∀ W d, Arr W d 3 (sd3 key iv q) → Calls Tryz.prog 25 #[.pointer (some ⟨d, 0, none⟩), .string b] W fun e w' => e = .returned (.tuple #[.string (oqS key (noS iv q) (hdS 23 (b.size : Int)) b), .int .i64 (oqE key (noS iv q) (hdS 23 (b.size : Int)) b)]) ∧ Below W.heap.size W w' := fun W d D => by
          refine opened_core d key iv b (noS iv q) _ _ q _ (hdS_size _ _) W D (fun W D => ?_) (fun W => head_any _ _ W) (fun W => gOpen_all _ _ _ _ hk (noS_size _ _) (by rw [hdS_size]; omega) W)
          have := nonce_any d key iv q q0 q1 W D
          rwa [eN] at this
        have zo := oqS_size key (noS iv q) (hdS 23 (b.size : Int)) b
        have E : upE key iv q k b = if oqE key (noS iv q) (hdS 23 (b.size : Int)) b = 0 then wiE (oqS key (noS iv q) (hdS 23 (b.size : Int)) b) else oqE key (noS iv q) (hdS 23 (b.size : Int)) b := by
          unfold upE
          rw [d, if_pos rfl, if_pos h4]
        unfold upQ upV
        rw [E]
        clear E
        generalize oqS key (noS iv q) (hdS 23 (b.size : Int)) b = S at *
        generalize oqE key (noS iv q) (hdS 23 (b.size : Int)) b = R at *
        by_cases h5 : R = 0
        · subst h5
          rw [if_pos rfl]
          have C4 := fun W => readWithin_any S (by omega) W
          obtain ⟨k2, b2, ev⟩ := wiV_is S
          rw [ev] at C4 ⊢
          by_cases h6 : wiE S = 0
          · rw [if_pos h6, if_pos h6, h6]
            rw [h6] at C4
            exact Unprotect_5 key iv b S b2 q k k2 h4 q0 (by omega) w C2 C3 C4
          · rw [if_neg h6, if_neg h6]
            exact Unprotect_4 key iv b S b2 q k k2 _ h4 h6 w C2 C3 C4
        · rw [if_neg h5, if_neg h5, if_neg h5]
          exact Unprotect_3 key iv b S q k R h4 h5 w C2 C3
      · have e : upE key iv q k b = 23 := by unfold upE; rw [d, if_pos rfl, if_neg h4]
        unfold upQ upV
        rw [e, if_neg (by decide), if_neg (by decide)]
        exact Unprotect_2 key iv b k q h4 w C2
  · have d : diE key iv q = noE key iv := by unfold diE; rw [if_neg h2]
    have e : upE key iv q k b = noE key iv := by unfold upE; rw [d, if_neg h2]
    unfold upQ upV
    rw [e, if_neg h2, if_neg h2]
    exact Unprotect_1 key iv b k q _ h2 w (fun W => directionOf_1 key iv _ q _ h2 W CN)
end Go.Proofs.YtjaljnfijhfkcaaGreatDoor
