/- What Raw and Shared of xdh answer. -/
import Derived.Test.YtpigofooblmdhaaJ32
import Derived.Test.YtpigofooblmdhaaJ33
set_option linter.all false
set_option maxRecDepth 100000
namespace Go.Proofs.Ytpigofooblmdhaa
open Go.RowKit Go.Sort
set_option maxHeartbeats 2000000 in
theorem raw_k (k u : ByteArray) (K E : Int) (hE : ¬ E = 0) (w : World)
    (CK : ∀ W, Calls Try.prog 40 #[.string k] W fun e w' => e = .returned (.tuple #[nv K, .int .i64 E]) ∧ Below W.heap.size W w') :
    Calls Try.prog 42 #[.string k, .string u] w fun e w' => e = .returned (.tuple #[.string ⟨#[]⟩, .int .i64 E]) ∧ Below w.heap.size w w' := by
  go_enter Try.func42, Try.ntmps42
  go_wp2_with fail
  refine (CK _).mono ?_
  rintro e w1 ⟨rfl, hb1⟩
  have hB1 := hb1
  have hS1 := hB1.size
  clear hb1 CK
  go_wp2_with fail
  go_returns
  exact ⟨rfl, by go_grown⟩
set_option maxHeartbeats 2000000 in
theorem raw_e (k u : ByteArray) (K U E : Int) (hE : ¬ E = 0) (w : World)
    (CK : ∀ W, Calls Try.prog 40 #[.string k] W fun e w' => e = .returned (.tuple #[nv K, .int .i64 0]) ∧ Below W.heap.size W w')
    (CU : ∀ W, Calls Try.prog 73 #[.string u] W fun e w' => e = .returned (.tuple #[nv U, .int .i64 E]) ∧ Below W.heap.size W w') :
    Calls Try.prog 42 #[.string k, .string u] w fun e w' => e = .returned (.tuple #[.string ⟨#[]⟩, .int .i64 E]) ∧ Below w.heap.size w w' := by
  go_enter Try.func42, Try.ntmps42
  go_wp2_with fail
  refine (CK _).mono ?_
  rintro e w1 ⟨rfl, hb1⟩
  have hB1 := hb1
  have hS1 := hB1.size
  clear hb1 CK
  go_wp2_with fail
  refine (CU _).mono ?_
  rintro e w2 ⟨rfl, hb2⟩
  have Ak := (Arr.mk4 (w := w1.alloc (.cells #[.int .u64 (lim K 0), .int .u64 (lim K 1), .int .u64 (lim K 2), .int .u64 (lim K 3)] 24)) (f := fun j => .int .u64 (lim K j)) (b := w1.heap.size) (by simp [go_sem]) (by simp [go_sem]) (by simp [go_sem]) (by simp [go_sem]) (by simp [go_sem]) (by simp [go_sem]) (by simp [go_sem]) (by simp [go_sem])).below hb2 (by go_size)
  have hB2 := Bel.call (Bel.al hB1 (.cells #[.int .u64 (lim K 0), .int .u64 (lim K 1), .int .u64 (lim K 2), .int .u64 (lim K 3)] 24)) hb2
  have hS2 := hB2.size
  have lk := Ak.lt
  have ck := Ak.c
  clear hb2 CU hB1
  go_wp2_with fail
  go_returns
  exact ⟨rfl, by go_grown⟩
set_option maxHeartbeats 2000000 in
theorem raw_y (k u S : ByteArray) (K U R : Int) (w : World)
    (CK : ∀ W, Calls Try.prog 40 #[.string k] W fun e w' => e = .returned (.tuple #[nv K, .int .i64 0]) ∧ Below W.heap.size W w')
    (CU : ∀ W, Calls Try.prog 73 #[.string u] W fun e w' => e = .returned (.tuple #[nv U, .int .i64 0]) ∧ Below W.heap.size W w')
    (CL : ∀ W, Calls Try.prog 74 #[nv K, nv U] W fun e w' => e = .returned (nv R) ∧ Below W.heap.size W w')
    (CS : ∀ W, Calls Try.prog 18 #[nv R] W fun e w' => e = .returned (.string S) ∧ Below W.heap.size W w') :
    Calls Try.prog 42 #[.string k, .string u] w fun e w' => e = .returned (.tuple #[.string S, .int .i64 0]) ∧ Below w.heap.size w w' := by
  go_enter Try.func42, Try.ntmps42
  go_wp2_with fail
  refine (CK _).mono ?_
  rintro e w1 ⟨rfl, hb1⟩
  have hB1 := hb1
  have hS1 := hB1.size
  clear hb1 CK
  go_wp2_with fail
  refine (CU _).mono ?_
  rintro e w2 ⟨rfl, hb2⟩
  have Ak := (Arr.mk4 (w := w1.alloc (.cells #[.int .u64 (lim K 0), .int .u64 (lim K 1), .int .u64 (lim K 2), .int .u64 (lim K 3)] 24)) (f := fun j => .int .u64 (lim K j)) (b := w1.heap.size) (by simp [go_sem]) (by simp [go_sem]) (by simp [go_sem]) (by simp [go_sem]) (by simp [go_sem]) (by simp [go_sem]) (by simp [go_sem]) (by simp [go_sem])).below hb2 (by go_size)
  have hB2 := Bel.call (Bel.al hB1 (.cells #[.int .u64 (lim K 0), .int .u64 (lim K 1), .int .u64 (lim K 2), .int .u64 (lim K 3)] 24)) hb2
  have hS2 := hB2.size
  have lk := Ak.lt
  have ck := Ak.c
  clear hb2 CU hB1
  go_wp2_with fail
  refine (CL _).mono ?_
  rintro e w3 ⟨rfl, hb3⟩
  have hB3 := Bel.call (Bel.al hB2 _) hb3
  clear hb3 CL hB2 ck lk Ak
  go_wp2_with fail
  refine (CS _).mono ?_
  rintro e w4 ⟨rfl, hb4⟩
  have hB4 := Bel.call hB3 hb4
  clear hb4 CS hB3
  go_wp2_with fail
  go_returns
  exact ⟨rfl, hB4⟩
def xr (K U : Int) : Int := vl (lsts U (upto K 255 255)).1 (lsts U (upto K 255 255)).2.1
theorem inn_xr (K U : Int) : Inn (xr K U) := inn_fm _ _
def rawS (k u : ByteArray) : ByteArray := if k.size = 32 ∧ u.size = 32 then mkS (ltL (xr (cl (flN k)) (c5 (flN u) % pp))) else ⟨#[]⟩
def rawE (k u : ByteArray) : Int := if k.size = 32 then lenE u.size 32 else lenE k.size 32
theorem raw_u (k u : ByteArray) (hk : k.size ≤ maxLen) (hu : u.size ≤ maxLen) (w : World) :
    Calls Try.prog 42 #[.string k, .string u] w fun e w' => e = .returned (.tuple #[.string (rawS k u), .int .i64 (rawE k u)]) ∧ Below w.heap.size w w' := by
  have ck := fun W => clamp_u k hk W
  have cu := fun W => coord_u u hu W
  unfold rawS rawE
  by_cases h : k.size = 32
  · rw [if_pos h, lenE_yes (by omega)] at ck
    rw [if_pos h]
    by_cases g : u.size = 32
    · rw [if_pos g, lenE_yes (by omega)] at cu
      rw [if_pos ⟨h, g⟩, lenE_yes (by omega)]
      exact raw_y k u _ _ _ _ w ck cu (fun W => ladder_any _ _ (inn_cl _) (inn_mod _) W) (fun W => little_any _ (inn_xr _ _).1 (inn_xr _ _).2 W)
    · rw [if_neg (fun c => g c.2)]
      exact raw_e k u _ _ _ (lenE_nz g) w ck cu
  · rw [if_neg (fun c => h c.1), if_neg h]
    exact raw_k k u _ _ (lenE_nz h) w ck
set_option maxHeartbeats 2000000 in
theorem shared_e (k u S : ByteArray) (E : Int) (hE : ¬ E = 0) (w : World)
    (CR : ∀ W, Calls Try.prog 42 #[.string k, .string u] W fun e w' => e = .returned (.tuple #[.string S, .int .i64 E]) ∧ Below W.heap.size W w') :
    Calls Try.prog 44 #[.string k, .string u] w fun e w' => e = .returned (.tuple #[.string ⟨#[]⟩, .int .i64 E]) ∧ Below w.heap.size w w' := by
  go_enter Try.func44, Try.ntmps44
  go_wp2_with fail
  refine (CR _).mono ?_
  rintro e w1 ⟨rfl, hb1⟩
  have hB1 := hb1
  clear hb1 CR
  go_wp2_with fail
  go_returns
  exact ⟨rfl, by go_grown⟩
set_option maxHeartbeats 2000000 in
theorem shared_0 (k u S T : ByteArray) (he : S.toList = T.toList) (w : World)
    (CR : ∀ W, Calls Try.prog 42 #[.string k, .string u] W fun e w' => e = .returned (.tuple #[.string S, .int .i64 0]) ∧ Below W.heap.size W w')
    (CZ : ∀ W, Calls Try.prog 18 #[.agg #[.int .u64 0, .int .u64 0, .int .u64 0, .int .u64 0]] W fun e w' => e = .returned (.string T) ∧ Below W.heap.size W w') :
    Calls Try.prog 44 #[.string k, .string u] w fun e w' => e = .returned (.tuple #[.string ⟨#[]⟩, .int .i64 15]) ∧ Below w.heap.size w w' := by
  go_enter Try.func44, Try.ntmps44
  go_wp2_with fail
  refine (CR _).mono ?_
  rintro e w1 ⟨rfl, hb1⟩
  have hB1 := hb1
  clear hb1 CR
  go_wp2_with fail
  refine (CZ _).mono ?_
  rintro e w2 ⟨rfl, hb2⟩
  have hB2 := Bel.call hB1 hb2
  clear hb2 CZ hB1
  go_wp2_with fail
  go_returns
  exact ⟨rfl, by go_grown⟩
set_option maxHeartbeats 2000000 in
theorem shared_y (k u S T : ByteArray) (hne : ¬ S.toList = T.toList) (w : World)
    (CR : ∀ W, Calls Try.prog 42 #[.string k, .string u] W fun e w' => e = .returned (.tuple #[.string S, .int .i64 0]) ∧ Below W.heap.size W w')
    (CZ : ∀ W, Calls Try.prog 18 #[.agg #[.int .u64 0, .int .u64 0, .int .u64 0, .int .u64 0]] W fun e w' => e = .returned (.string T) ∧ Below W.heap.size W w') :
    Calls Try.prog 44 #[.string k, .string u] w fun e w' => e = .returned (.tuple #[.string S, .int .i64 0]) ∧ Below w.heap.size w w' := by
  go_enter Try.func44, Try.ntmps44
  go_wp2_with fail
  refine (CR _).mono ?_
  rintro e w1 ⟨rfl, hb1⟩
  have hB1 := hb1
  clear hb1 CR
  go_wp2_with fail
  have hne' : (S.toList == T.toList) = false := by simpa using hne
  refine (CZ _).mono ?_
  rintro e w2 ⟨rfl, hb2⟩
  have hB2 := Bel.call hB1 hb2
  clear hb2 CZ hB1
  go_wp2_with fail
  go_returns
  exact ⟨rfl, by go_grown⟩
def shS (k u : ByteArray) : ByteArray := if rawE k u = 0 ∧ ¬ (rawS k u).toList = (mkS (ltL 0)).toList then rawS k u else ⟨#[]⟩
def shE (k u : ByteArray) : Int := if rawE k u = 0 then (if (rawS k u).toList = (mkS (ltL 0)).toList then 15 else 0) else rawE k u
theorem shared_u (k u : ByteArray) (hk : k.size ≤ maxLen) (hu : u.size ≤ maxLen) (w : World) :
    Calls Try.prog 44 #[.string k, .string u] w fun e w' => e = .returned (.tuple #[.string (shS k u), .int .i64 (shE k u)]) ∧ Below w.heap.size w w' := by
  have cr := fun W => raw_u k u hk hu W
  have cz : ∀ W, Calls Try.prog 18 #[.agg #[.int .u64 0, .int .u64 0, .int .u64 0, .int .u64 0]] W fun e w' => e = .returned (.string (mkS (ltL 0))) ∧ Below W.heap.size W w' := fun W => by
    have := little_any 0 (by omega) (by decide) W
    rw [nv_zero] at this
    exact this
  unfold shS shE
  by_cases h : rawE k u = 0
  · rw [h] at cr
    by_cases g : (rawS k u).toList = (mkS (ltL 0)).toList
    · rw [if_neg (fun c => c.2 g), if_pos h, if_pos g]
      exact shared_0 k u _ _ g w cr cz
    · rw [if_pos ⟨h, g⟩, if_pos h, if_neg g]
      exact shared_y k u _ _ g w cr cz
  · rw [if_neg (fun c => h c.1), if_neg h]
    exact shared_e k u _ _ h w cr
end Go.Proofs.Ytpigofooblmdhaa
