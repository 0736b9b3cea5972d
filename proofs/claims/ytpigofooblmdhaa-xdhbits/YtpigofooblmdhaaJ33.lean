/- What Clamp and coordinate answer, in xdh and in the reference. -/
import Derived.Laws.MathBits
import Derived.Laws.BitsAllLaws
import Derived.Test.YtpigofooblmdhaaJ31
import Derived.Test.YtpigofooblmdhaaJ12
set_option linter.all false
set_option maxRecDepth 100000
namespace Go.Proofs.Ytpigofooblmdhaa
open Go.RowKit Go.Sort
theorem b_low3 (z : Int) (h0 : 0 ≤ z) (h1 : z < 18446744073709551616) : bits .andNot .u64 z 7 = z / 8 * 8 := by go_bits2
theorem b_and63 (z : Int) (h0 : 0 ≤ z) (h1 : z < 18446744073709551616) : bits .and .u64 z 9223372036854775807 = z % 9223372036854775808 := by go_bits2
theorem b_not63 (z : Int) (h0 : 0 ≤ z) (h1 : z < 18446744073709551616) : bits .andNot .u64 z 9223372036854775808 = z % 9223372036854775808 := by go_bits2
theorem or62n (n : Nat) (h : n < 9223372036854775808) : n ||| 4611686018427387904 = n % 4611686018427387904 + 4611686018427387904 := by
  have key : ∀ r : Nat, r < 4611686018427387904 → 4611686018427387904 ||| r = 4611686018427387904 + r := fun r hr => by
    have := @Nat.two_pow_add_eq_or_of_lt 62 r (by simpa using hr) 1
    simp at this
    exact this.symm
  by_cases c : n < 4611686018427387904
  · rw [Nat.or_comm, key n c, Nat.mod_eq_of_lt c]; omega
  · obtain ⟨r, rfl⟩ : ∃ r, n = 4611686018427387904 + r := ⟨n - 4611686018427387904, by omega⟩
    rw [← key r (by omega), Nat.or_comm, ← Nat.or_assoc, Nat.or_self, key r (by omega)]
    omega
theorem b_or62 (z : Int) (h0 : 0 ≤ z) (h1 : z < 9223372036854775808) : bits .or .u64 z 4611686018427387904 = z % 4611686018427387904 + 4611686018427387904 := by
  have e := u64_or z 4611686018427387904 h0 (by omega) (by omega) (by omega)
  rw [e]
  have t : (4611686018427387904 : Int).toNat = 4611686018427387904 := rfl
  rw [t, or62n z.toNat (by omega)]
  omega
def cl (N : Int) : Int := N % 28948022309329048855892746252171976963317496166410141009864396001978282409984 / 8 * 8 + 28948022309329048855892746252171976963317496166410141009864396001978282409984
theorem cl_lims (N : Int) : lim (cl N) 0 = lim N 0 / 8 * 8 ∧ lim (cl N) 1 = lim N 1 ∧ lim (cl N) 2 = lim N 2 ∧ lim (cl N) 3 = lim N 3 % 4611686018427387904 + 4611686018427387904 := by
  rw [lim0, lim1, lim2, lim3, lim0, lim1, lim2, lim3]; unfold cl; omega
theorem inn_cl (N : Int) : Inn (cl N) := by unfold Inn cl top256; omega
def c5 (N : Int) : Int := N % 57896044618658097711785492504343953926634992332820282019728792003956564819968
theorem c5_lims (N : Int) : lim (c5 N) 0 = lim N 0 ∧ lim (c5 N) 1 = lim N 1 ∧ lim (c5 N) 2 = lim N 2 ∧ lim (c5 N) 3 = lim N 3 % 9223372036854775808 := by
  rw [lim0, lim1, lim2, lim3, lim0, lim1, lim2, lim3]; unfold c5; omega
theorem inn_c5 (N : Int) : Inn (c5 N) := by unfold Inn c5 top256; omega
theorem lenE_nz {n : Nat} (h : n ≠ 32) : ¬ lenE (n : Int) 32 = 0 := by unfold lenE; split <;> (try split) <;> omega
set_option maxHeartbeats 2000000 in
theorem clamp_er (s : ByteArray) (N E : Int) (hE : ¬ E = 0) (w : World)
    (CF : ∀ W, Calls Try.prog 12 #[.string s] W fun e w' => e = .returned (.tuple #[nv N, .int .i64 E]) ∧ Below W.heap.size W w') :
    Calls Try.prog 40 #[.string s] w fun e w' => e = .returned (.tuple #[.agg #[.int .u64 0, .int .u64 0, .int .u64 0, .int .u64 0], .int .i64 E]) ∧ Below w.heap.size w w' := by
  go_enter Try.func40, Try.ntmps40
  obtain ⟨W0, hW0⟩ : ∃ W0, W0 = (w.alloc (.cells #[.int .u64 0, .int .u64 0, .int .u64 0, .int .u64 0] 24)) := ⟨_, rfl⟩
  have Az : Arr W0 (w.heap.size) 4 (fun _ => .int .u64 0) := by subst hW0; refine Arr.mk4 ?_ ?_ ?_ ?_ ?_ ?_ ?_ ?_ <;> simp [go_sem]
  have hB : Below w.heap.size w W0 := by subst hW0; go_grown
  subst hW0
  go_wp2_with fail
  refine (CF _).mono ?_
  rintro e w1 ⟨rfl, hb⟩
  replace Az := Arr.to' Az hb
  replace hB := Bel.call hB hb
  clear hb CF
  have cz := Az.c
  have zz := Az.z
  have lz := Az.lt
  have hS := hB.size
  go_wp2_with fail
  refine bodyPost_ret (v := .tuple #[.agg #[.int .u64 0, .int .u64 0, .int .u64 0, .int .u64 0], .int .i64 E]) (by simp [results, Try.results40, go_sem, cz, lz]) rfl ⟨rfl, ?_⟩
  go_grown
set_option maxHeartbeats 2000000 in
theorem clamp_ok (s : ByteArray) (N : Int) (w : World)
    (CF : ∀ W, Calls Try.prog 12 #[.string s] W fun e w' => e = .returned (.tuple #[nv N, .int .i64 0]) ∧ Below W.heap.size W w') :
    Calls Try.prog 40 #[.string s] w fun e w' => e = .returned (.tuple #[nv (cl N), .int .i64 0]) ∧ Below w.heap.size w w' := by
  go_enter Try.func40, Try.ntmps40
  obtain ⟨W0, hW0⟩ : ∃ W0, W0 = (w.alloc (.cells #[.int .u64 0, .int .u64 0, .int .u64 0, .int .u64 0] 24)) := ⟨_, rfl⟩
  have Az : Arr W0 (w.heap.size) 4 (fun _ => .int .u64 0) := by subst hW0; refine Arr.mk4 ?_ ?_ ?_ ?_ ?_ ?_ ?_ ?_ <;> simp [go_sem]
  have hB : Below w.heap.size w W0 := by subst hW0; go_grown
  subst hW0
  go_wp2_with fail
  refine (CF _).mono ?_
  rintro e w1 ⟨rfl, hb⟩
  replace Az := Arr.to' Az hb
  replace hB := Bel.call hB hb
  clear hb CF
  have cz := Az.c
  have zz := Az.z
  have lz := Az.lt
  have hS := hB.size
  obtain ⟨q0, q1, q2, q3⟩ := cl_lims N
  have b0 : bits .andNot .u64 (lim N 0) 7 = lim (cl N) 0 := by rw [b_low3 _ (lim_nn _ _) (lim_lt _ _), q0]
  have b3 : bits .or .u64 (bits .andNot .u64 (lim N 3) 9223372036854775808) 4611686018427387904 = lim (cl N) 3 := by rw [b_not63 _ (lim_nn _ _) (lim_lt _ _), b_or62 _ (by omega) (by omega), q3]; omega
  clear q0 q3
  go_wp2_with fail
  refine bodyPost_ret (v := .tuple #[nv (cl N), .int .i64 0]) (by simp [results, Try.results40, go_sem, cz, lz, q1, q2]) rfl ⟨rfl, ?_⟩
  go_grown
theorem clamp_u (s : ByteArray) (hs : s.size ≤ maxLen) (w : World) :
    Calls Try.prog 40 #[.string s] w fun e w' => e = .returned (.tuple #[nv (if s.size = 32 then cl (flN s) else 0), .int .i64 (lenE s.size 32)]) ∧ Below w.heap.size w w' := by
  have u := fun W => fromLittle_u s hs W
  by_cases h : s.size = 32
  · rw [if_pos h]
    rw [lenE_yes (by omega)] at u ⊢
    exact clamp_ok s _ w u
  · rw [if_neg h, nv_nil]
    exact clamp_er s _ _ (lenE_nz h) w u
set_option maxHeartbeats 2000000 in
theorem rclamp_er (s : ByteArray) (N E : Int) (hE : ¬ E = 0) (w : World)
    (CF : ∀ W, Calls Try.prog 13 #[.string s] W fun e w' => e = .returned (.tuple #[nv N, .int .i64 E]) ∧ Below W.heap.size W w') :
    Calls Try.prog 41 #[.string s] w fun e w' => e = .returned (.tuple #[.agg #[.int .u64 0, .int .u64 0, .int .u64 0, .int .u64 0], .int .i64 E]) ∧ Below w.heap.size w w' := by
  go_enter Try.func41, Try.ntmps41
  obtain ⟨W0, hW0⟩ : ∃ W0, W0 = (w.alloc (.cells #[.int .u64 0, .int .u64 0, .int .u64 0, .int .u64 0] 24)) := ⟨_, rfl⟩
  have Az : Arr W0 (w.heap.size) 4 (fun _ => .int .u64 0) := by subst hW0; refine Arr.mk4 ?_ ?_ ?_ ?_ ?_ ?_ ?_ ?_ <;> simp [go_sem]
  have hB : Below w.heap.size w W0 := by subst hW0; go_grown
  subst hW0
  go_wp2_with fail
  refine (CF _).mono ?_
  rintro e w1 ⟨rfl, hb⟩
  replace Az := Arr.to' Az hb
  replace hB := Bel.call hB hb
  clear hb CF
  have cz := Az.c
  have zz := Az.z
  have lz := Az.lt
  have hS := hB.size
  go_wp2_with fail
  refine bodyPost_ret (v := .tuple #[.agg #[.int .u64 0, .int .u64 0, .int .u64 0, .int .u64 0], .int .i64 E]) (by simp [results, Try.results41, go_sem, cz, lz]) rfl ⟨rfl, ?_⟩
  go_grown
set_option maxHeartbeats 2000000 in
theorem rclamp_ok (s : ByteArray) (N : Int) (w : World)
    (CF : ∀ W, Calls Try.prog 13 #[.string s] W fun e w' => e = .returned (.tuple #[nv N, .int .i64 0]) ∧ Below W.heap.size W w') :
    Calls Try.prog 41 #[.string s] w fun e w' => e = .returned (.tuple #[nv (cl N), .int .i64 0]) ∧ Below w.heap.size w w' := by
  go_enter Try.func41, Try.ntmps41
  obtain ⟨W0, hW0⟩ : ∃ W0, W0 = (w.alloc (.cells #[.int .u64 0, .int .u64 0, .int .u64 0, .int .u64 0] 24)) := ⟨_, rfl⟩
  have Az : Arr W0 (w.heap.size) 4 (fun _ => .int .u64 0) := by subst hW0; refine Arr.mk4 ?_ ?_ ?_ ?_ ?_ ?_ ?_ ?_ <;> simp [go_sem]
  have hB : Below w.heap.size w W0 := by subst hW0; go_grown
  subst hW0
  go_wp2_with fail
  refine (CF _).mono ?_
  rintro e w1 ⟨rfl, hb⟩
  replace Az := Arr.to' Az hb
  replace hB := Bel.call hB hb
  clear hb CF
  have cz := Az.c
  have zz := Az.z
  have lz := Az.lt
  have hS := hB.size
  obtain ⟨q0, q1, q2, q3⟩ := cl_lims N
  have b0 : IntKind.u64.wrap (lim N 0 / 8 * 8) = lim (cl N) 0 := by rw [q0, IntKind.wrap_u64]; have := lim_nn N 0; have := lim_lt N 0; omega
  have b3 : bits .or .u64 (bits .and .u64 (lim N 3) 9223372036854775807) 4611686018427387904 = lim (cl N) 3 := by rw [b_and63 _ (lim_nn _ _) (lim_lt _ _), b_or62 _ (by omega) (by omega), q3]; omega
  clear q0 q3
  go_wp2_with fail
  refine bodyPost_ret (v := .tuple #[nv (cl N), .int .i64 0]) (by simp [results, Try.results41, go_sem, cz, lz, q1, q2]) rfl ⟨rfl, ?_⟩
  go_grown
theorem rclamp_u (s : ByteArray) (hs : s.size ≤ maxLen) (w : World) :
    Calls Try.prog 41 #[.string s] w fun e w' => e = .returned (.tuple #[nv (if s.size = 32 then cl (flN s) else 0), .int .i64 (lenE s.size 32)]) ∧ Below w.heap.size w w' := by
  have u := fun W => refFromLittle_u s hs W
  by_cases h : s.size = 32
  · rw [if_pos h]
    rw [lenE_yes (by omega)] at u ⊢
    exact rclamp_ok s _ w u
  · rw [if_neg h, nv_nil]
    exact rclamp_er s _ _ (lenE_nz h) w u
set_option maxHeartbeats 2000000 in
theorem coord_er (s : ByteArray) (N E : Int) (hE : ¬ E = 0) (w : World)
    (CF : ∀ W, Calls Try.prog 12 #[.string s] W fun e w' => e = .returned (.tuple #[nv N, .int .i64 E]) ∧ Below W.heap.size W w') :
    Calls Try.prog 73 #[.string s] w fun e w' => e = .returned (.tuple #[.agg #[.int .u64 0, .int .u64 0, .int .u64 0, .int .u64 0], .int .i64 E]) ∧ Below w.heap.size w w' := by
  go_enter Try.func73, Try.ntmps73
  obtain ⟨W0, hW0⟩ : ∃ W0, W0 = (w.alloc (.cells #[.int .u64 0, .int .u64 0, .int .u64 0, .int .u64 0] 24)) := ⟨_, rfl⟩
  have Az : Arr W0 (w.heap.size) 4 (fun _ => .int .u64 0) := by subst hW0; refine Arr.mk4 ?_ ?_ ?_ ?_ ?_ ?_ ?_ ?_ <;> simp [go_sem]
  have hB : Below w.heap.size w W0 := by subst hW0; go_grown
  subst hW0
  go_wp2_with fail
  refine (CF _).mono ?_
  rintro e w1 ⟨rfl, hb⟩
  replace Az := Arr.to' Az hb
  replace hB := Bel.call hB hb
  clear hb CF
  have cz := Az.c
  have zz := Az.z
  have lz := Az.lt
  have hS := hB.size
  go_wp2_with fail
  refine bodyPost_ret (v := .tuple #[.agg #[.int .u64 0, .int .u64 0, .int .u64 0, .int .u64 0], .int .i64 E]) (by simp [results, Try.results73, go_sem, cz, lz]) rfl ⟨rfl, ?_⟩
  go_grown
set_option maxHeartbeats 2000000 in
theorem coord_ok (s : ByteArray) (N R : Int) (w : World)
    (CF : ∀ W, Calls Try.prog 12 #[.string s] W fun e w' => e = .returned (.tuple #[nv N, .int .i64 0]) ∧ Below W.heap.size W w')
    (CR : ∀ W, Calls Try.prog 27 #[nv (c5 N), .agg #[.int .u64 0, .int .u64 0, .int .u64 0, .int .u64 0], nv pp] W fun e w' => e = .returned (nv R) ∧ Below W.heap.size W w') :
    Calls Try.prog 73 #[.string s] w fun e w' => e = .returned (.tuple #[nv R, .int .i64 0]) ∧ Below w.heap.size w w' := by
  go_enter Try.func73, Try.ntmps73
  obtain ⟨W0, hW0⟩ : ∃ W0, W0 = (w.alloc (.cells #[.int .u64 0, .int .u64 0, .int .u64 0, .int .u64 0] 24)) := ⟨_, rfl⟩
  have Az : Arr W0 (w.heap.size) 4 (fun _ => .int .u64 0) := by subst hW0; refine Arr.mk4 ?_ ?_ ?_ ?_ ?_ ?_ ?_ ?_ <;> simp [go_sem]
  have hB : Below w.heap.size w W0 := by subst hW0; go_grown
  subst hW0
  go_wp2_with fail
  refine (CF _).mono ?_
  rintro e w1 ⟨rfl, hb⟩
  replace Az := Arr.to' Az hb
  replace hB := Bel.call hB hb
  clear hb CF
  obtain ⟨q0, q1, q2, q3⟩ := c5_lims N
  have b3 : bits .andNot .u64 (lim N 3) 9223372036854775808 = lim (c5 N) 3 := by rw [b_not63 _ (lim_nn _ _) (lim_lt _ _), q3]
  replace q0 := q0.symm
  replace q1 := q1.symm
  replace q2 := q2.symm
  clear q3
  have lz_2 := Az.lt
  have lB_2 := hB.size
  replace Az := (Arr.al' Az (.cells #[.int .u64 (lim (c5 N) 0), .int .u64 (lim (c5 N) 1), .int .u64 (lim (c5 N) 2), .int .u64 (lim (c5 N) 3)] 24))
  have An : Arr ((w1.alloc (.cells #[.int .u64 (lim (c5 N) 0), .int .u64 (lim (c5 N) 1), .int .u64 (lim (c5 N) 2), .int .u64 (lim (c5 N) 3)] 24))) (w1.heap.size) 4 (fun j => .int .u64 (lim (c5 N) j)) := by refine Arr.mk4 ?_ ?_ ?_ ?_ ?_ ?_ ?_ ?_ <;> simp [go_sem]
  replace hB := (Bel.al hB (.cells #[.int .u64 (lim (c5 N) 0), .int .u64 (lim (c5 N) 1), .int .u64 (lim (c5 N) 2), .int .u64 (lim (c5 N) 3)] 24))
  have rn0 := fun ds os => cell_regrown (An.c 0 (by omega)) ds os
  have rn1 := fun ds os => cell_regrown (An.c 1 (by omega)) ds os
  have rn2 := fun ds os => cell_regrown (An.c 2 (by omega)) ds os
  have rn3 := fun ds os => cell_regrown (An.c 3 (by omega)) ds os
  go_wp2_with fail
  refine wp_region_below_tail 4 (by kernel_rfl) (by kernel_rfl) ?_
  simp only [List.take_succ_cons, List.take_zero, List.drop_succ_cons, List.drop_zero]
  repeat (go_big_quiet_step (first | (go_at_call 21; exact Calls.regrown_of (p21 _)) | (go_at_call 27; exact Calls.regrown_of (CR _))))
  refine wpQuiet_nil ?_
  intro w2 hw'
  obtain ⟨⟨dq, osq⟩, hw''⟩ := hw'
  have hb := below_of hw''
  clear hw''
  replace Az := Arr.to' Az hb
  replace hB := Bel.call hB hb
  clear hb rn0 rn1 rn2 rn3 An CR q0 q1 q2 b3
  have hS := hB.size
  have cz := Az.c
  have zz := Az.z
  go_wp2_with fail
  refine bodyPost_ret (v := .tuple #[nv R, .int .i64 0]) (by simp [results, Try.results73, go_sem, cz]) rfl ⟨rfl, ?_⟩
  go_grown
theorem coord_u (s : ByteArray) (hs : s.size ≤ maxLen) (w : World) :
    Calls Try.prog 73 #[.string s] w fun e w' => e = .returned (.tuple #[nv (if s.size = 32 then c5 (flN s) % pp else 0), .int .i64 (lenE s.size 32)]) ∧ Below w.heap.size w w' := by
  have u := fun W => fromLittle_u s hs W
  by_cases h : s.size = 32
  · rw [if_pos h]
    rw [lenE_yes (by omega)] at u ⊢
    refine coord_ok s _ _ w u fun W => ?_
    have := rem_any (c5 (flN s)) 0 pp (inn_c5 _).1 (inn_c5 _).2 (by omega) (by decide) inn_pp.1 inn_pp.2 W
    rw [nv_zero, Int.zero_mul, Int.add_zero, md_pos _ pp_pos] at this
    exact this
  · rw [if_neg h, nv_nil]
    exact coord_er s _ _ (lenE_nz h) w u
set_option maxHeartbeats 2000000 in
theorem rcoord_er (s : ByteArray) (N E : Int) (hE : ¬ E = 0) (w : World)
    (CF : ∀ W, Calls Try.prog 13 #[.string s] W fun e w' => e = .returned (.tuple #[nv N, .int .i64 E]) ∧ Below W.heap.size W w') :
    Calls Try.prog 75 #[.string s] w fun e w' => e = .returned (.tuple #[.agg #[.int .u64 0, .int .u64 0, .int .u64 0, .int .u64 0], .int .i64 E]) ∧ Below w.heap.size w w' := by
  go_enter Try.func75, Try.ntmps75
  obtain ⟨W0, hW0⟩ : ∃ W0, W0 = (w.alloc (.cells #[.int .u64 0, .int .u64 0, .int .u64 0, .int .u64 0] 24)) := ⟨_, rfl⟩
  have Az : Arr W0 (w.heap.size) 4 (fun _ => .int .u64 0) := by subst hW0; refine Arr.mk4 ?_ ?_ ?_ ?_ ?_ ?_ ?_ ?_ <;> simp [go_sem]
  have hB : Below w.heap.size w W0 := by subst hW0; go_grown
  subst hW0
  go_wp2_with fail
  refine (CF _).mono ?_
  rintro e w1 ⟨rfl, hb⟩
  replace Az := Arr.to' Az hb
  replace hB := Bel.call hB hb
  clear hb CF
  have cz := Az.c
  have zz := Az.z
  have lz := Az.lt
  have hS := hB.size
  go_wp2_with fail
  refine bodyPost_ret (v := .tuple #[.agg #[.int .u64 0, .int .u64 0, .int .u64 0, .int .u64 0], .int .i64 E]) (by simp [results, Try.results75, go_sem, cz, lz]) rfl ⟨rfl, ?_⟩
  go_grown
set_option maxHeartbeats 2000000 in
theorem rcoord_ok (s : ByteArray) (N R : Int) (w : World)
    (CF : ∀ W, Calls Try.prog 13 #[.string s] W fun e w' => e = .returned (.tuple #[nv N, .int .i64 0]) ∧ Below W.heap.size W w')
    (CR : ∀ W, Calls Try.prog 28 #[nv (c5 N), .agg #[.int .u64 0, .int .u64 0, .int .u64 0, .int .u64 0], nv pp] W fun e w' => e = .returned (nv R) ∧ Below W.heap.size W w') :
    Calls Try.prog 75 #[.string s] w fun e w' => e = .returned (.tuple #[nv R, .int .i64 0]) ∧ Below w.heap.size w w' := by
  go_enter Try.func75, Try.ntmps75
  obtain ⟨W0, hW0⟩ : ∃ W0, W0 = (w.alloc (.cells #[.int .u64 0, .int .u64 0, .int .u64 0, .int .u64 0] 24)) := ⟨_, rfl⟩
  have Az : Arr W0 (w.heap.size) 4 (fun _ => .int .u64 0) := by subst hW0; refine Arr.mk4 ?_ ?_ ?_ ?_ ?_ ?_ ?_ ?_ <;> simp [go_sem]
  have hB : Below w.heap.size w W0 := by subst hW0; go_grown
  subst hW0
  go_wp2_with fail
  refine (CF _).mono ?_
  rintro e w1 ⟨rfl, hb⟩
  replace Az := Arr.to' Az hb
  replace hB := Bel.call hB hb
  clear hb CF
  obtain ⟨q0, q1, q2, q3⟩ := c5_lims N
  have b3 : bits .and .u64 (lim N 3) 9223372036854775807 = lim (c5 N) 3 := by rw [b_and63 _ (lim_nn _ _) (lim_lt _ _), q3]
  replace q0 := q0.symm
  replace q1 := q1.symm
  replace q2 := q2.symm
  clear q3
  have lz_2 := Az.lt
  have lB_2 := hB.size
  replace Az := (Arr.al' Az (.cells #[.int .u64 (lim (c5 N) 0), .int .u64 (lim (c5 N) 1), .int .u64 (lim (c5 N) 2), .int .u64 (lim (c5 N) 3)] 24))
  have An : Arr ((w1.alloc (.cells #[.int .u64 (lim (c5 N) 0), .int .u64 (lim (c5 N) 1), .int .u64 (lim (c5 N) 2), .int .u64 (lim (c5 N) 3)] 24))) (w1.heap.size) 4 (fun j => .int .u64 (lim (c5 N) j)) := by refine Arr.mk4 ?_ ?_ ?_ ?_ ?_ ?_ ?_ ?_ <;> simp [go_sem]
  replace hB := (Bel.al hB (.cells #[.int .u64 (lim (c5 N) 0), .int .u64 (lim (c5 N) 1), .int .u64 (lim (c5 N) 2), .int .u64 (lim (c5 N) 3)] 24))
  have rn0 := fun ds os => cell_regrown (An.c 0 (by omega)) ds os
  have rn1 := fun ds os => cell_regrown (An.c 1 (by omega)) ds os
  have rn2 := fun ds os => cell_regrown (An.c 2 (by omega)) ds os
  have rn3 := fun ds os => cell_regrown (An.c 3 (by omega)) ds os
  go_wp2_with fail
  refine wp_region_below_tail 4 (by kernel_rfl) (by kernel_rfl) ?_
  simp only [List.take_succ_cons, List.take_zero, List.drop_succ_cons, List.drop_zero]
  repeat (go_big_quiet_step (first | (go_at_call 79; exact Calls.regrown_of (p79 _)) | (go_at_call 28; exact Calls.regrown_of (CR _))))
  refine wpQuiet_nil ?_
  intro w2 hw'
  obtain ⟨⟨dq, osq⟩, hw''⟩ := hw'
  have hb := below_of hw''
  clear hw''
  replace Az := Arr.to' Az hb
  replace hB := Bel.call hB hb
  clear hb rn0 rn1 rn2 rn3 An CR q0 q1 q2 b3
  have hS := hB.size
  have cz := Az.c
  have zz := Az.z
  go_wp2_with fail
  refine bodyPost_ret (v := .tuple #[nv R, .int .i64 0]) (by simp [results, Try.results75, go_sem, cz]) rfl ⟨rfl, ?_⟩
  go_grown
theorem rcoord_u (s : ByteArray) (hs : s.size ≤ maxLen) (w : World) :
    Calls Try.prog 75 #[.string s] w fun e w' => e = .returned (.tuple #[nv (if s.size = 32 then c5 (flN s) % pp else 0), .int .i64 (lenE s.size 32)]) ∧ Below w.heap.size w w' := by
  have u := fun W => refFromLittle_u s hs W
  by_cases h : s.size = 32
  · rw [if_pos h]
    rw [lenE_yes (by omega)] at u ⊢
    refine rcoord_ok s _ _ w u fun W => ?_
    have := refRem_any (c5 (flN s)) 0 pp (inn_c5 _).1 (inn_c5 _).2 (by omega) (by decide) inn_pp.1 inn_pp.2 W
    rw [nv_zero, Int.zero_mul, Int.add_zero, md_pos _ pp_pos] at this
    exact this
  · rw [if_neg h, nv_nil]
    exact rcoord_er s _ _ (lenE_nz h) w u
end Go.Proofs.Ytpigofooblmdhaa
