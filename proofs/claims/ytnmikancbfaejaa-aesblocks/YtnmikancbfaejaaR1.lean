/- The reference: sizes, sums, rows turned. -/
import Derived.Test.YtnmikancbfaejaaC10
set_option linter.all false
set_option maxRecDepth 100000
namespace Go.Proofs.Ytnmikancbfaejaa
open Go.RowKit Go.Sort
set_option maxHeartbeats 1000000 in
theorem rsized_any (key : ByteArray) (w : World) : Calls Try.prog 26 #[.string key] w fun e w' => e = .returned (.bool (isK key)) ∧ w' = w := by
  by_cases h1 : key.size = 16
  · have e : isK key = true := by unfold isK; simp [h1]
    have i1 : (key.size : Int) = 16 := by omega
    rw [e]
    clear e h1
    go_enter Try.func26, Try.ntmps26
    go_wp2
    go_ret
    exact ⟨rfl, rfl⟩
  · have i1 : ¬ (key.size : Int) = 16 := by omega
    by_cases h2 : key.size = 32
    · have e : isK key = true := by unfold isK; simp [h2]
      have i2 : (key.size : Int) = 32 := by omega
      rw [e]
      clear e h1 h2
      go_enter Try.func26, Try.ntmps26
      go_wp2
      go_ret
      exact ⟨rfl, rfl⟩
    · have e : isK key = false := by unfold isK; simp [h1, h2]
      have i2 : ¬ (key.size : Int) = 32 := by omega
      rw [e]
      clear e h1 h2
      go_enter Try.func26, Try.ntmps26
      go_wp2
      go_ret
      refine ⟨?_, rfl⟩
      simp [i1, i2]
set_option maxHeartbeats 1000000 in
theorem rrefused_any (key block : ByteArray) (w : World) : Calls Try.prog 31 #[.string key, .string block] w fun e w' => e = .returned (.int .i64 (rfs key block)) ∧ w' = w := by
  have C := fun W => rsized_any key W
  have hnot : ∀ (x : Bool) (w : World), (Op.unary .not (.bool x)).run Try.prog w = .ok (.bool (!x)) w := fun _ _ => rfl
  unfold rfs
  by_cases h1 : isK key = true
  · rw [h1] at C
    rw [if_pos h1]
    clear h1
    by_cases h2 : block.size = 16
    · have i2 : (block.size : Int) = 16 := by omega
      rw [if_pos h2]
      clear h2
      go_enter Try.func31, Try.ntmps31
      go_wp2_with (go_at_call 26; refine (C _).mono ?_; rintro e w1 ⟨rfl, rfl⟩)
      go_ret
      exact ⟨rfl, rfl⟩
    · have i2 : ¬ (block.size : Int) = 16 := by omega
      rw [if_neg h2]
      clear h2
      go_enter Try.func31, Try.ntmps31
      go_wp2_with (go_at_call 26; refine (C _).mono ?_; rintro e w1 ⟨rfl, rfl⟩)
      go_ret
      exact ⟨rfl, rfl⟩
  · have h2 : isK key = false := by simpa using h1
    rw [h2] at C
    rw [if_neg h1]
    clear h1 h2
    go_enter Try.func31, Try.ntmps31
    go_wp2_with (go_at_call 26; refine (C _).mono ?_; rintro e w1 ⟨rfl, rfl⟩)
    go_ret
    exact ⟨rfl, rfl⟩
/-- A byte in a cell. -/
def bc (f : Nat → By) (j : Nat) : Value := .int .u8 ((f j).val : Int)
/-- The first k are done. -/
def bm (y x : Nat → By) (k : Nat) (j : Nat) : Value := .int .u8 ((if j < k then y j else x j).val : Int)
set_option maxHeartbeats 2000000 in
theorem rplus_core (f k y : Nat → By) (hy : ∀ j, j < 16 → y j = xr (f j) (k j)) (gb gw o cb cw : Nat) (hne : gw ≠ gb) (w : World) (hA : Arr w gb 16 (bc f)) (hK : ∀ j, j < 16 → w.cell? ⟨gw, o + j, none⟩ = some (bc k j)) :
    Calls Try.prog 34 #[.slice (some ⟨gb, 0, none⟩) 16 cb, .slice (some ⟨gw, o, none⟩) 16 cw] w fun e w' => e = .returned (.tuple #[]) ∧ w.grownBy w' (some gb) ∧ Arr w' gb 16 (bc y) := by
  go_enter Try.func34, Try.ntmps34
  go_wp2_with fail
  go_loopw [4] (fun i wr => ∃ m : Nat, m ≤ 16 ∧ i = .int .i64 m ∧ w.grownBy wr (some gb) ∧ Arr wr gb 16 (bm y f m)) (fun i _ => 16 - (intOf i).toNat)
  case atStart => exact ⟨0, by omega, rfl, gb_refl _ _, hA.congr (fun j _ => by unfold bm bc; rw [if_neg (by omega)])⟩
  case round =>
    obtain ⟨m, hm, rfl, hG, A⟩ := hrel
    have m0 : (0 : Int) ≤ (m : Int) := by omega
    by_cases hlt : m < 16
    · have m1 : (m : Int) < 16 := by omega
      have c1 := A.cv m hlt (.int .u8 ((f m).val : Int)) (by unfold bm; rw [if_neg (by omega)])
      have c2 := (gb_cell (j := o + m) hG (block_lt_of_cell (hK m hlt)) hne).trans (hK m hlt)
      unfold bc at c2
      have r1 := fun ds os => cell_regrown c1 ds os
      have r2 := fun ds os => cell_regrown c2 ds os
      have ex := xr8 (f m) (k m)
      rw [← hy m hlt] at ex
      clear hy hK
      go_wp2_with fail
      refine wp_region_below_tail 12 (by kernel_rfl) (by kernel_rfl) ?_
      simp only [List.take_succ_cons, List.take_zero, List.drop_succ_cons, List.drop_zero]
      repeat (go_big_quiet_step (fail))
      refine wpQuiet_nil ?_
      intro w1 hw'
      obtain ⟨⟨dq, osq⟩, hw''⟩ := hw'
      have hb := below_of hw''
      clear hw'' r1 r2 c1 c2
      have A1 := A.to' hb
      have hG1 := gb_trans hG (gb_of hb)
      clear A hG hb
      have c := A1.c m hlt
      have z := A1.z m hlt
      go_wp2_with fail
      refine ⟨⟨m + 1, by omega, by go_num, gb_trans hG1 (gb_set _ _ _ _), (A1.set m hlt _).congr ?_⟩, by simp [intOf]; omega⟩
      intro j hj
      unfold bm
      by_cases e : j = m
      · subst e; rw [if_pos rfl, if_pos (by omega)]
      · rw [if_neg e]
        by_cases e2 : j < m
        · rw [if_pos e2, if_pos (by omega)]
        · rw [if_neg e2, if_neg (by omega)]
    · have e : m = 16 := by omega
      rw [show ((m : Nat) : Int) = 16 by omega]
      subst e
      have A2 : Arr wr gb 16 (bc y) := A.congr fun j hj => by unfold bm bc; rw [if_pos hj]
      clear A hy hK
      go_wp2_with fail
      go_end0
      exact ⟨rfl, hG, A2⟩
theorem rplus_any (f k : Nat → By) (gb gw o cb cw : Nat) (hne : gw ≠ gb) (w : World) (hA : Arr w gb 16 (bc f)) (hK : ∀ j, j < 16 → w.cell? ⟨gw, o + j, none⟩ = some (bc k j)) :
    Calls Try.prog 34 #[.slice (some ⟨gb, 0, none⟩) 16 cb, .slice (some ⟨gw, o, none⟩) 16 cw] w fun e w' => e = .returned (.tuple #[]) ∧ w.grownBy w' (some gb) ∧ Arr w' gb 16 (bc (plF f k)) :=
  rplus_core f k (plF f k) (fun _ _ => rfl) gb gw o cb cw hne w hA hK
/-- What is done by step m. -/
def tv (y : Nat → By) (st : Nat → Nat) (m : Nat) (j : Nat) : Value := .int .u8 ((if st j < m then y j else 0).val : Int)
theorem tv_step (y : Nat → By) (st : Nat → Nat) (m p : Nat) (hst : st p = m) (hun : ∀ j, j < 16 → st j = m → j = p) (j : Nat) (hj : j < 16) : (if j = p then Value.int .u8 ((y p).val : Int) else tv y st m j) = tv y st (m + 1) j := by
  unfold tv
  by_cases e : j = p
  · subst e; rw [if_pos rfl, hst, if_pos (by omega)]
  · rw [if_neg e]
    have : st j ≠ m := fun h => e (hun j hj h)
    by_cases e2 : st j < m
    · rw [if_pos e2, if_pos (by omega)]
    · rw [if_neg e2, if_neg (by omega)]
theorem made_at (n j : Nat) (hj : j < n) : (madeCells #[Value.int .u8 0] n)[j]? = some (.int .u8 0) := by
  simp [madeCells, hj, Nat.mod_one]
theorem z16 : (Try.prog.info? 5).map (fun i => (i.zero, i.size, i.bytes)) = some (some (.int .u8 0), 1, 1) := Try.info5
set_option maxHeartbeats 4000000 in
theorem rturned_core (back : Bool) (f y : Nat → By) (st ps src : Nat → Nat) (gb cb : Nat)
    (hps : ∀ c r, c < 4 → r < 4 → ps (4 * c + r) = if back then 4 * ((c + r) % 4) + r else 4 * c + r) (hsrc : ∀ c r, c < 4 → r < 4 → src (4 * c + r) = if back then 4 * c + r else 4 * ((c + r) % 4) + r)
    (hval : ∀ m, m < 16 → f (src m) = y (ps m)) (hst : ∀ m, m < 16 → st (ps m) = m) (hun : ∀ j m, j < 16 → m < 16 → st j = m → j = ps m) (hall : ∀ j, j < 16 → st j < 16)
    (w : World) (hA : Arr w gb 16 (bc f)) :
    Calls Try.prog 36 #[.slice (some ⟨gb, 0, none⟩) 16 cb, .bool back] w fun e w' => e = .returned (.slice (some ⟨w.heap.size, 0, none⟩) 16 16) ∧ Below w.heap.size w w' ∧ Arr w' w.heap.size 16 (bc y) := by
  obtain ⟨i0, hi, hz0, hz1, hz2⟩ := info_parts Try.info5
  have mk := run_make (P := Try.prog) w 48 5 i0 (.int .u8 0) Try.underlying48 hi hz0 .i64 .i64 16 16 (by omega) (by omega) (by rw [hz2]; omega) (by omega)
  rw [hz1] at mk
  go_enter Try.func36, Try.ntmps36
  go_wp2_with fail
  have A0 : Arr (w.alloc (.cells (madeCells #[.int .u8 0] 16) 5)) w.heap.size 16 (tv y st 0) := Arr.new _ _ 5 _ rfl _ 16 (fun j hj => by unfold tv; rw [if_neg (by omega)]; exact made_at 16 j hj)
  have B0 : Below w.heap.size w (w.alloc (.cells (madeCells #[.int .u8 0] 16) 5)) := Bel.al (Below.refl _ w) _
  clear mk hi hz0 hz1 hz2
  go_loopw [6] (fun i wr => ∃ c : Nat, c ≤ 4 ∧ i = .int .i64 c ∧ Below w.heap.size w wr ∧ Arr wr w.heap.size 16 (tv y st (4 * c))) (fun i _ => 4 - (intOf i).toNat)
  case atStart => exact ⟨0, by omega, rfl, B0, A0⟩
  case round =>
    clear A0 B0
    obtain ⟨c, hc, rfl, hB, A⟩ := hrel
    have c0 : (0 : Int) ≤ (c : Int) := by omega
    by_cases hlt : c < 4
    · have c4 : (c : Int) < 4 := by omega
      go_wp2_with fail
      go_loopw [7] (fun i wr => ∃ r : Nat, r ≤ 4 ∧ i = .int .i64 r ∧ Below w.heap.size w wr ∧ Arr wr w.heap.size 16 (tv y st (4 * c + r))) (fun i _ => 4 - (intOf i).toNat)
      case atStart => exact ⟨0, by omega, rfl, hB, A⟩
      case round =>
        clear A hB
        obtain ⟨r, hr, rfl, hB, A⟩ := hrel
        have r0 : (0 : Int) ≤ (r : Int) := by omega
        by_cases hlr : r < 4
        · have r4 : (r : Int) < 4 := by omega
          have hp := hps c r hlt hlr
          have hs := hsrc c r hlt hlr
          have hv := hval (4 * c + r) (by omega)
          have hS := tv_step y st (4 * c + r) (ps (4 * c + r)) (hst _ (by omega)) (fun j hj h => hun j _ hj (by omega) h)
          have F := hA.to' hB
          obtain ⟨q, hq⟩ : ∃ q, (c + r) % 4 = q := ⟨_, rfl⟩
          have q4 : q < 4 := by omega
          have qi : ((c : Int) + (r : Int)) % 4 = (q : Int) := by omega
          rw [hq] at hp hs
          have q0 : (0 : Int) ≤ (q : Int) := by omega
          have qi4 : (q : Int) < 4 := by omega
          rw [hs, hp] at hv
          rw [hp] at hS
          clear hps hsrc hval hst hun hall hp hs hq
          cases back with
          | true =>
            rw [if_pos rfl, if_pos rfl] at hv
            rw [if_pos rfl] at hS
            have HS : Hid _ := hS
            have HV : Hid _ := hv
            have cf := F.c (4 * c + r) (by omega)
            unfold bc at cf
            rw [hv] at cf
            have co := A.c (4 * q + r) (by omega)
            have zo := A.z (4 * q + r) (by omega)
            clear hS hv F
            go_wp2_with fail
            refine ⟨⟨r + 1, by omega, by go_num, Bel.st hB (Nat.le_refl _) _, (A.set (4 * q + r) (by omega) _).congr HS.out⟩, by simp [intOf]; omega⟩
          | false =>
            rw [if_neg (by decide), if_neg (by decide)] at hv
            rw [if_neg (by decide)] at hS
            have HS : Hid _ := hS
            have cf := F.c (4 * q + r) (by omega)
            unfold bc at cf
            rw [hv] at cf
            have co := A.c (4 * c + r) (by omega)
            have zo := A.z (4 * c + r) (by omega)
            clear hS hv F
            go_wp2_with fail
            refine ⟨⟨r + 1, by omega, by go_num, Bel.st hB (Nat.le_refl _) _, (A.set (4 * c + r) (by omega) _).congr HS.out⟩, by simp [intOf]; omega⟩
        · have e : r = 4 := by omega
          rw [show ((r : Nat) : Int) = 4 by omega]
          subst e
          clear hps hsrc hval hst hun hall
          go_wp2_with fail
          refine ⟨⟨c + 1, by omega, by go_num, hB, ?_⟩, by simp [intOf]; omega⟩
          rw [show 4 * (c + 1) = 4 * c + 4 by omega]
          exact A
    · have e : c = 4 := by omega
      rw [show ((c : Nat) : Int) = 4 by omega]
      subst e
      have A2 : Arr wr w.heap.size 16 (bc y) := A.congr fun j hj => by unfold tv bc; rw [if_pos (hall j hj)]
      clear A hps hsrc hval hst hun hall
      go_wp2_with fail
      go_ret
      exact ⟨rfl, hB, A2⟩
theorem ti_at (c r : Nat) (hc : c < 4) (hr : r < 4) : ti (4 * c + r) = 4 * ((c + r) % 4) + r := by
  unfold ti
  rw [show (4 * c + r) / 4 = c by omega, show (4 * c + r) % 4 = r by omega]
theorem rturned_any (f : Nat → By) (gb cb : Nat) (w : World) (hA : Arr w gb 16 (bc f)) :
    Calls Try.prog 36 #[.slice (some ⟨gb, 0, none⟩) 16 cb, .bool false] w fun e w' => e = .returned (.slice (some ⟨w.heap.size, 0, none⟩) 16 16) ∧ Below w.heap.size w w' ∧ Arr w' w.heap.size 16 (bc (tnF f)) :=
  rturned_core false f (tnF f) id id ti gb cb (fun c r _ _ => rfl) (fun c r hc hr => by rw [ti_at c r hc hr]; rfl) (fun m _ => rfl) (fun m _ => rfl) (fun j m _ _ h => h) (fun j h => h) w hA
theorem rback_any (f : Nat → By) (gb cb : Nat) (w : World) (hA : Arr w gb 16 (bc f)) :
    Calls Try.prog 36 #[.slice (some ⟨gb, 0, none⟩) 16 cb, .bool true] w fun e w' => e = .returned (.slice (some ⟨w.heap.size, 0, none⟩) 16 16) ∧ Below w.heap.size w w' ∧ Arr w' w.heap.size 16 (bc (utF f)) :=
  rturned_core true f (utF f) ui ti id gb cb (fun c r hc hr => by rw [ti_at c r hc hr]; rfl) (fun c r _ _ => rfl) (fun m hm => by show f m = f (ui (ti m)); rw [(ti_ui ⟨m, hm⟩).2.1]) (fun m hm => (ti_ui ⟨m, hm⟩).2.1) (fun j m hj _ h => by rw [← h]; exact (ti_ui ⟨j, hj⟩).1.symm) (fun j hj => (ti_ui ⟨j, hj⟩).2.2.2) w hA
end Go.Proofs.Ytnmikancbfaejaa
