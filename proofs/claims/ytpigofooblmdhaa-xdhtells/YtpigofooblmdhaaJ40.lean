/- What the reference's Raw and Shared of layer 3 answer. -/
import Derived.Test.YtpigofooblmdhaaJ39
import Derived.Test.YtpigofooblmdhaaJ36
set_option linter.all false
set_option maxRecDepth 100000
namespace Go.Proofs.Ytpigofooblmdhaa
open Go.RowKit Go.Sort
set_option maxHeartbeats 2000000 in
theorem rraw_k (k u : ByteArray) (K E : Int) (hE : ¬ E = 0) (w : World)
    (CK : ∀ W, Calls Try.prog 41 #[.string k] W fun e w' => e = .returned (.tuple #[nv K, .int .i64 E]) ∧ Below W.heap.size W w') :
    Calls Try.prog 43 #[.string k, .string u] w fun e w' => e = .returned (.tuple #[.string ⟨#[]⟩, .int .i64 E]) ∧ Below w.heap.size w w' := by
  go_enter Try.func43, Try.ntmps43
  go_wp2_with fail
  refine (CK _).mono ?_
  rintro e w1 ⟨rfl, hb1⟩
  have hB1 := hb1
  have hS1 := hB1.size
  clear hb1 CK
  go_wp2_with fail
  go_returns
  exact ⟨rfl, by go_grown⟩
set_option maxHeartbeats 2000000 in
theorem rraw_e (k u : ByteArray) (K U E : Int) (hE : ¬ E = 0) (w : World)
    (CK : ∀ W, Calls Try.prog 41 #[.string k] W fun e w' => e = .returned (.tuple #[nv K, .int .i64 0]) ∧ Below W.heap.size W w')
    (CU : ∀ W, Calls Try.prog 75 #[.string u] W fun e w' => e = .returned (.tuple #[nv U, .int .i64 E]) ∧ Below W.heap.size W w') :
    Calls Try.prog 43 #[.string k, .string u] w fun e w' => e = .returned (.tuple #[.string ⟨#[]⟩, .int .i64 E]) ∧ Below w.heap.size w w' := by
  go_enter Try.func43, Try.ntmps43
  go_wp2_with fail
  refine (CK _).mono ?_
  rintro e w1 ⟨rfl, hb1⟩
  have hB1 := hb1
  have hS1 := hB1.size
  clear hb1 CK
  go_wp2_with fail
  refine (CU _).mono ?_
  rintro e w2 ⟨rfl, hb2⟩
  have Ak := (Arr.mk4 (w := w1.alloc (.cells #[.int .u64 (lim K 0), .int .u64 (lim K 1), .int .u64 (lim K 2), .int .u64 (lim K 3)] 24)) (f := fun j => .int .u64 (lim K j)) (b := w1.heap.size) (by simp [go_sem]) (by simp [go_sem]) (by simp [go_sem]) (by simp [go_sem]) (by simp [go_sem]) (by simp [go_sem]) (by simp [go_sem]) (by simp [go_sem])).below hb2 (by go_size)
  have hB2 := Bel.call (Bel.al hB1 (.cells #[.int .u64 (lim K 0), .int .u64 (lim K 1), .int .u64 (lim K 2), .int .u64 (lim K 3)] 24)) hb2
  have hS2 := hB2.size
  have lk := Ak.lt
  have ck := Ak.c
  clear hb2 CU hB1
  go_wp2_with fail
  go_returns
  exact ⟨rfl, by go_grown⟩
theorem rraw_u (k u : ByteArray) (hk : k.size ≤ maxLen) (hu : u.size ≤ maxLen) (w : World) :
    Calls Try.prog 43 #[.string k, .string u] w fun e w' => e = .returned (.tuple #[.string (rawS k u), .int .i64 (rawE k u)]) ∧ Below w.heap.size w w' := by
  have ck := fun W => rclamp_u k hk W
  have cu := fun W => rcoord_u u hu W
  unfold rawS rawE
  by_cases h : k.size = 32
  · rw [if_pos h, lenE_yes (by omega)] at ck
    rw [if_pos h]
    by_cases g : u.size = 32
    · rw [if_pos g, lenE_yes (by omega)] at cu
      rw [if_pos ⟨h, g⟩, lenE_yes (by omega)]
      have iU := inn_mod (c5 (flN u))
      have i4 := inn4_sts (c5 (flN u) % pp) iU (upto (cl (flN k)) 255 255)
      refine rraw_core k u _ _ _ _ (xr (cl (flN k)) (c5 (flN u) % pp)) (bw pp 2 4) iU w ck cu (fun W => ?_) (fun W => ?_) (fun W => rmul _ _ i4.1 (inn_mod _) W) (fun W => refLittle_any _ W)
      · have := refSub_raw pp 2 W
        rw [nv_low 2 (by decide) (by decide)] at this
        exact this
      · have := refPow_any _ (pp - 2) pp i4.2.1.1 i4.2.1.2 inn_p2.1 inn_p2.2 inn_pp.1 inn_pp.2 W
        rw [md_pos _ pp_pos] at this
        exact this
    · rw [if_neg (fun c => g c.2)]
      exact rraw_e k u _ _ _ (lenE_nz g) w ck cu
  · rw [if_neg (fun c => h c.1), if_neg h]
    exact rraw_k k u _ _ (lenE_nz h) w ck
set_option maxHeartbeats 2000000 in
theorem rshared_e (k u S : ByteArray) (E : Int) (hE : ¬ E = 0) (w : World)
    (CR : ∀ W, Calls Try.prog 43 #[.string k, .string u] W fun e w' => e = .returned (.tuple #[.string S, .int .i64 E]) ∧ Below W.heap.size W w') :
    Calls Try.prog 45 #[.string k, .string u] w fun e w' => e = .returned (.tuple #[.string ⟨#[]⟩, .int .i64 E]) ∧ Below w.heap.size w w' := by
  go_enter Try.func45, Try.ntmps45
  go_wp2_with fail
  refine (CR _).mono ?_
  rintro e w1 ⟨rfl, hb1⟩
  have hB1 := hb1
  clear hb1 CR
  go_wp2_with fail
  go_returns
  exact ⟨rfl, by go_grown⟩
set_option maxHeartbeats 2000000 in
theorem rshared_0 (k u S T : ByteArray) (he : S.toList = T.toList) (w : World)
    (CR : ∀ W, Calls Try.prog 43 #[.string k, .string u] W fun e w' => e = .returned (.tuple #[.string S, .int .i64 0]) ∧ Below W.heap.size W w')
    (CZ : ∀ W, Calls Try.prog 19 #[.agg #[.int .u64 0, .int .u64 0, .int .u64 0, .int .u64 0]] W fun e w' => e = .returned (.string T) ∧ Below W.heap.size W w') :
    Calls Try.prog 45 #[.string k, .string u] w fun e w' => e = .returned (.tuple #[.string ⟨#[]⟩, .int .i64 15]) ∧ Below w.heap.size w w' := by
  go_enter Try.func45, Try.ntmps45
  go_wp2_with fail
  refine (CR _).mono ?_
  rintro e w1 ⟨rfl, hb1⟩
  have hB1 := hb1
  clear hb1 CR
  go_wp2_with fail
  refine (CZ _).mono ?_
  rintro e w2 ⟨rfl, hb2⟩
  have hB2 := Bel.call hB1 hb2
  clear hb2 CZ hB1
  go_wp2_with fail
  go_returns
  exact ⟨rfl, by go_grown⟩
set_option maxHeartbeats 2000000 in
theorem rshared_y (k u S T : ByteArray) (hne : ¬ S.toList = T.toList) (w : World)
    (CR : ∀ W, Calls Try.prog 43 #[.string k, .string u] W fun e w' => e = .returned (.tuple #[.string S, .int .i64 0]) ∧ Below W.heap.size W w')
    (CZ : ∀ W, Calls Try.prog 19 #[.agg #[.int .u64 0, .int .u64 0, .int .u64 0, .int .u64 0]] W fun e w' => e = .returned (.string T) ∧ Below W.heap.size W w') :
    Calls Try.prog 45 #[.string k, .string u] w fun e w' => e = .returned (.tuple #[.string S, .int .i64 0]) ∧ Below w.heap.size w w' := by
  go_enter Try.func45, Try.ntmps45
  go_wp2_with fail
  refine (CR _).mono ?_
  rintro e w1 ⟨rfl, hb1⟩
  have hB1 := hb1
  clear hb1 CR
  go_wp2_with fail
  have hne' : (S.toList == T.toList) = false := by simpa using hne
  refine (CZ _).mono ?_
  rintro e w2 ⟨rfl, hb2⟩
  have hB2 := Bel.call hB1 hb2
  clear hb2 CZ hB1
  go_wp2_with fail
  go_returns
  exact ⟨rfl, by go_grown⟩
theorem rshared_u (k u : ByteArray) (hk : k.size ≤ maxLen) (hu : u.size ≤ maxLen) (w : World) :
    Calls Try.prog 45 #[.string k, .string u] w fun e w' => e = .returned (.tuple #[.string (shS k u), .int .i64 (shE k u)]) ∧ Below w.heap.size w w' := by
  have cr := fun W => rraw_u k u hk hu W
  have cz : ∀ W, Calls Try.prog 19 #[.agg #[.int .u64 0, .int .u64 0, .int .u64 0, .int .u64 0]] W fun e w' => e = .returned (.string (mkS (ltL 0))) ∧ Below W.heap.size W w' := fun W => by
    have := refLittle_any 0 W
    rw [nv_zero] at this
    exact this
  unfold shS shE
  by_cases h : rawE k u = 0
  · rw [h] at cr
    by_cases g : (rawS k u).toList = (mkS (ltL 0)).toList
    · rw [if_neg (fun c => c.2 g), if_pos h, if_pos g]
      exact rshared_0 k u _ _ g w cr cz
    · rw [if_pos ⟨h, g⟩, if_pos h, if_neg g]
      exact rshared_y k u _ _ g w cr cz
  · rw [if_neg (fun c => h c.1), if_neg h]
    exact rshared_e k u _ _ h w cr
end Go.Proofs.Ytpigofooblmdhaa
