/- Texts joined: R1, K1, K2. -/
import Derived.Test.YtbodafogiijhnaaJ21
/- The reference: sizes, sums, rows turned. -/
set_option linter.all false
set_option maxRecDepth 100000
namespace Go.Proofs.Ytbodafogiijhnaa
open Go.RowKit Go.Sort
set_option maxHeartbeats 1000000 in
theorem rsized_any (key : ByteArray) (w : World) : Calls Try.prog 52 #[.string key] w fun e w' => e = .returned (.bool (isK key)) ∧ w' = w := by
  by_cases h1 : key.size = 16
  · have e : isK key = true := by unfold isK; simp [h1]
    have i1 : (key.size : Int) = 16 := by omega
    rw [e]
    clear e h1
    go_enter Try.func52, Try.ntmps52
    go_wp2
    go_ret
    exact ⟨rfl, rfl⟩
  · have i1 : ¬ (key.size : Int) = 16 := by omega
    by_cases h2 : key.size = 32
    · have e : isK key = true := by unfold isK; simp [h2]
      have i2 : (key.size : Int) = 32 := by omega
      rw [e]
      clear e h1 h2
      go_enter Try.func52, Try.ntmps52
      go_wp2
      go_ret
      exact ⟨rfl, rfl⟩
    · have e : isK key = false := by unfold isK; simp [h1, h2]
      have i2 : ¬ (key.size : Int) = 32 := by omega
      rw [e]
      clear e h1 h2
      go_enter Try.func52, Try.ntmps52
      go_wp2
      go_ret
      refine ⟨?_, rfl⟩
      simp [i1, i2]
set_option maxHeartbeats 1000000 in
theorem rrefused_any (key block : ByteArray) (w : World) : Calls Try.prog 41 #[.string key, .string block] w fun e w' => e = .returned (.int .i64 (rfs key block)) ∧ w' = w := by
  have C := fun W => rsized_any key W
  have hnot : ∀ (x : Bool) (w : World), (Op.unary .not (.bool x)).run Try.prog w = .ok (.bool (!x)) w := fun _ _ => rfl
  unfold rfs
  by_cases h1 : isK key = true
  · rw [h1] at C
    rw [if_pos h1]
    clear h1
    by_cases h2 : block.size = 16
    · have i2 : (block.size : Int) = 16 := by omega
      rw [if_pos h2]
      clear h2
      go_enter Try.func41, Try.ntmps41
      go_wp2_with (go_at_call 52; refine (C _).mono ?_; rintro e w1 ⟨rfl, rfl⟩)
      go_ret
      exact ⟨rfl, rfl⟩
    · have i2 : ¬ (block.size : Int) = 16 := by omega
      rw [if_neg h2]
      clear h2
      go_enter Try.func41, Try.ntmps41
      go_wp2_with (go_at_call 52; refine (C _).mono ?_; rintro e w1 ⟨rfl, rfl⟩)
      go_ret
      exact ⟨rfl, rfl⟩
  · have h2 : isK key = false := by simpa using h1
    rw [h2] at C
    rw [if_neg h1]
    clear h1 h2
    go_enter Try.func41, Try.ntmps41
    go_wp2_with (go_at_call 52; refine (C _).mono ?_; rintro e w1 ⟨rfl, rfl⟩)
    go_ret
    exact ⟨rfl, rfl⟩
/-- A byte in a cell. -/
def bc (f : Nat → By) (j : Nat) : Value := .int .u8 ((f j).val : Int)
/-- The first k are done. -/
def bm (y x : Nat → By) (k : Nat) (j : Nat) : Value := .int .u8 ((if j < k then y j else x j).val : Int)
set_option maxHeartbeats 2000000 in
theorem rplus_core (f k y : Nat → By) (hy : ∀ j, j < 16 → y j = xr (f j) (k j)) (gb gw o cb cw : Nat) (hne : gw ≠ gb) (w : World) (hA : Arr w gb 16 (bc f)) (hK : ∀ j, j < 16 → w.cell? ⟨gw, o + j, none⟩ = some (bc k j)) :
    Calls Try.prog 55 #[.slice (some ⟨gb, 0, none⟩) 16 cb, .slice (some ⟨gw, o, none⟩) 16 cw] w fun e w' => e = .returned (.tuple #[]) ∧ w.grownBy w' (some gb) ∧ Arr w' gb 16 (bc y) := by
  go_enter Try.func55, Try.ntmps55
  go_wp2_with fail
  go_loopw [4] (fun i wr => ∃ m : Nat, m ≤ 16 ∧ i = .int .i64 m ∧ w.grownBy wr (some gb) ∧ Arr wr gb 16 (bm y f m)) (fun i _ => 16 - (intOf i).toNat)
  case atStart => exact ⟨0, by omega, rfl, gb_refl _ _, hA.congr (fun j _ => by unfold bm bc; rw [if_neg (by omega)])⟩
  case round =>
    obtain ⟨m, hm, rfl, hG, A⟩ := hrel
    have m0 : (0 : Int) ≤ (m : Int) := by omega
    by_cases hlt : m < 16
    · have m1 : (m : Int) < 16 := by omega
      have c1 := A.cv m hlt (.int .u8 ((f m).val : Int)) (by unfold bm; rw [if_neg (by omega)])
      have c2 := (gb_cell (j := o + m) hG (block_lt_of_cell (hK m hlt)) hne).trans (hK m hlt)
      unfold bc at c2
      have r1 := fun ds os => cell_regrown c1 ds os
      have r2 := fun ds os => cell_regrown c2 ds os
      have ex := xr8 (f m) (k m)
      rw [← hy m hlt] at ex
      clear hy hK
      go_wp2_with fail
      refine wp_region_below_tail 12 (by kernel_rfl) (by kernel_rfl) ?_
      simp only [List.take_succ_cons, List.take_zero, List.drop_succ_cons, List.drop_zero]
      repeat (go_big_quiet_step (fail))
      refine wpQuiet_nil ?_
      intro w1 hw'
      obtain ⟨⟨dq, osq⟩, hw''⟩ := hw'
      have hb := below_of hw''
      clear hw'' r1 r2 c1 c2
      have A1 := A.to' hb
      have hG1 := gb_trans hG (gb_of hb)
      clear A hG hb
      have c := A1.c m hlt
      have z := A1.z m hlt
      go_wp2_with fail
      refine ⟨⟨m + 1, by omega, by go_num, gb_trans hG1 (gb_set _ _ _ _), (A1.set m hlt _).congr ?_⟩, by simp [intOf]; omega⟩
      intro j hj
      unfold bm
      by_cases e : j = m
      · subst e; rw [if_pos rfl, if_pos (by omega)]
      · rw [if_neg e]
        by_cases e2 : j < m
        · rw [if_pos e2, if_pos (by omega)]
        · rw [if_neg e2, if_neg (by omega)]
    · have e : m = 16 := by omega
      rw [show ((m : Nat) : Int) = 16 by omega]
      subst e
      have A2 : Arr wr gb 16 (bc y) := A.congr fun j hj => by unfold bm bc; rw [if_pos hj]
      clear A hy hK
      go_wp2_with fail
      go_end0
      exact ⟨rfl, hG, A2⟩
theorem rplus_any (f k : Nat → By) (gb gw o cb cw : Nat) (hne : gw ≠ gb) (w : World) (hA : Arr w gb 16 (bc f)) (hK : ∀ j, j < 16 → w.cell? ⟨gw, o + j, none⟩ = some (bc k j)) :
    Calls Try.prog 55 #[.slice (some ⟨gb, 0, none⟩) 16 cb, .slice (some ⟨gw, o, none⟩) 16 cw] w fun e w' => e = .returned (.tuple #[]) ∧ w.grownBy w' (some gb) ∧ Arr w' gb 16 (bc (plF f k)) :=
  rplus_core f k (plF f k) (fun _ _ => rfl) gb gw o cb cw hne w hA hK
/-- What is done by step m. -/
def tv (y : Nat → By) (st : Nat → Nat) (m : Nat) (j : Nat) : Value := .int .u8 ((if st j < m then y j else 0).val : Int)
theorem tv_step (y : Nat → By) (st : Nat → Nat) (m p : Nat) (hst : st p = m) (hun : ∀ j, j < 16 → st j = m → j = p) (j : Nat) (hj : j < 16) : (if j = p then Value.int .u8 ((y p).val : Int) else tv y st m j) = tv y st (m + 1) j := by
  unfold tv
  by_cases e : j = p
  · subst e; rw [if_pos rfl, hst, if_pos (by omega)]
  · rw [if_neg e]
    have : st j ≠ m := fun h => e (hun j hj h)
    by_cases e2 : st j < m
    · rw [if_pos e2, if_pos (by omega)]
    · rw [if_neg e2, if_neg (by omega)]
theorem made_at (n j : Nat) (hj : j < n) : (madeCells #[Value.int .u8 0] n)[j]? = some (.int .u8 0) := by
  simp [madeCells, hj, Nat.mod_one]
theorem z16 : (Try.prog.info? 5).map (fun i => (i.zero, i.size, i.bytes)) = some (some (.int .u8 0), 1, 1) := Try.info5
set_option maxHeartbeats 4000000 in
theorem rturned_core (back : Bool) (f y : Nat → By) (st ps src : Nat → Nat) (gb cb : Nat)
    (hps : ∀ c r, c < 4 → r < 4 → ps (4 * c + r) = if back then 4 * ((c + r) % 4) + r else 4 * c + r) (hsrc : ∀ c r, c < 4 → r < 4 → src (4 * c + r) = if back then 4 * c + r else 4 * ((c + r) % 4) + r)
    (hval : ∀ m, m < 16 → f (src m) = y (ps m)) (hst : ∀ m, m < 16 → st (ps m) = m) (hun : ∀ j m, j < 16 → m < 16 → st j = m → j = ps m) (hall : ∀ j, j < 16 → st j < 16)
    (w : World) (hA : Arr w gb 16 (bc f)) :
    Calls Try.prog 56 #[.slice (some ⟨gb, 0, none⟩) 16 cb, .bool back] w fun e w' => e = .returned (.slice (some ⟨w.heap.size, 0, none⟩) 16 16) ∧ Below w.heap.size w w' ∧ Arr w' w.heap.size 16 (bc y) := by
  obtain ⟨i0, hi, hz0, hz1, hz2⟩ := info_parts Try.info5
  have mk := run_make (P := Try.prog) w 36 5 i0 (.int .u8 0) Try.underlying36 hi hz0 .i64 .i64 16 16 (by omega) (by omega) (by rw [hz2]; omega) (by omega)
  rw [hz1] at mk
  go_enter Try.func56, Try.ntmps56
  go_wp2_with fail
  have A0 : Arr (w.alloc (.cells (madeCells #[.int .u8 0] 16) 5)) w.heap.size 16 (tv y st 0) := Arr.new _ _ 5 _ rfl _ 16 (fun j hj => by unfold tv; rw [if_neg (by omega)]; exact made_at 16 j hj)
  have B0 : Below w.heap.size w (w.alloc (.cells (madeCells #[.int .u8 0] 16) 5)) := Bel.al (Below.refl _ w) _
  clear mk hi hz0 hz1 hz2
  go_loopw [6] (fun i wr => ∃ c : Nat, c ≤ 4 ∧ i = .int .i64 c ∧ Below w.heap.size w wr ∧ Arr wr w.heap.size 16 (tv y st (4 * c))) (fun i _ => 4 - (intOf i).toNat)
  case atStart => exact ⟨0, by omega, rfl, B0, A0⟩
  case round =>
    clear A0 B0
    obtain ⟨c, hc, rfl, hB, A⟩ := hrel
    have c0 : (0 : Int) ≤ (c : Int) := by omega
    by_cases hlt : c < 4
    · have c4 : (c : Int) < 4 := by omega
      go_wp2_with fail
      go_loopw [7] (fun i wr => ∃ r : Nat, r ≤ 4 ∧ i = .int .i64 r ∧ Below w.heap.size w wr ∧ Arr wr w.heap.size 16 (tv y st (4 * c + r))) (fun i _ => 4 - (intOf i).toNat)
      case atStart => exact ⟨0, by omega, rfl, hB, A⟩
      case round =>
        clear A hB
        obtain ⟨r, hr, rfl, hB, A⟩ := hrel
        have r0 : (0 : Int) ≤ (r : Int) := by omega
        by_cases hlr : r < 4
        · have r4 : (r : Int) < 4 := by omega
          have hp := hps c r hlt hlr
          have hs := hsrc c r hlt hlr
          have hv := hval (4 * c + r) (by omega)
          have hS := tv_step y st (4 * c + r) (ps (4 * c + r)) (hst _ (by omega)) (fun j hj h => hun j _ hj (by omega) h)
          have F := hA.to' hB
          obtain ⟨q, hq⟩ : ∃ q, (c + r) % 4 = q := ⟨_, rfl⟩
          have q4 : q < 4 := by omega
          have qi : ((c : Int) + (r : Int)) % 4 = (q : Int) := by omega
          rw [hq] at hp hs
          have q0 : (0 : Int) ≤ (q : Int) := by omega
          have qi4 : (q : Int) < 4 := by omega
          rw [hs, hp] at hv
          rw [hp] at hS
          clear hps hsrc hval hst hun hall hp hs hq
          cases back with
          | true =>
            rw [if_pos rfl, if_pos rfl] at hv
            rw [if_pos rfl] at hS
            have HS : Hid _ := hS
            have HV : Hid _ := hv
            have cf := F.c (4 * c + r) (by omega)
            unfold bc at cf
            rw [hv] at cf
            have co := A.c (4 * q + r) (by omega)
            have zo := A.z (4 * q + r) (by omega)
            clear hS hv F
            go_wp2_with fail
            refine ⟨⟨r + 1, by omega, by go_num, Bel.st hB (Nat.le_refl _) _, (A.set (4 * q + r) (by omega) _).congr HS.out⟩, by simp [intOf]; omega⟩
          | false =>
            rw [if_neg (by decide), if_neg (by decide)] at hv
            rw [if_neg (by decide)] at hS
            have HS : Hid _ := hS
            have cf := F.c (4 * q + r) (by omega)
            unfold bc at cf
            rw [hv] at cf
            have co := A.c (4 * c + r) (by omega)
            have zo := A.z (4 * c + r) (by omega)
            clear hS hv F
            go_wp2_with fail
            refine ⟨⟨r + 1, by omega, by go_num, Bel.st hB (Nat.le_refl _) _, (A.set (4 * c + r) (by omega) _).congr HS.out⟩, by simp [intOf]; omega⟩
        · have e : r = 4 := by omega
          rw [show ((r : Nat) : Int) = 4 by omega]
          subst e
          clear hps hsrc hval hst hun hall
          go_wp2_with fail
          refine ⟨⟨c + 1, by omega, by go_num, hB, ?_⟩, by simp [intOf]; omega⟩
          rw [show 4 * (c + 1) = 4 * c + 4 by omega]
          exact A
    · have e : c = 4 := by omega
      rw [show ((c : Nat) : Int) = 4 by omega]
      subst e
      have A2 : Arr wr w.heap.size 16 (bc y) := A.congr fun j hj => by unfold tv bc; rw [if_pos (hall j hj)]
      clear A hps hsrc hval hst hun hall
      go_wp2_with fail
      go_ret
      exact ⟨rfl, hB, A2⟩
def ti (j : Nat) : Nat := 4 * ((j / 4 + j % 4) % 4) + j % 4
theorem ti_at (c r : Nat) (hc : c < 4) (hr : r < 4) : ti (4 * c + r) = 4 * ((c + r) % 4) + r := by
  unfold ti
  rw [show (4 * c + r) / 4 = c by omega, show (4 * c + r) % 4 = r by omega]
theorem rturned_any (f : Nat → By) (gb cb : Nat) (w : World) (hA : Arr w gb 16 (bc f)) :
    Calls Try.prog 56 #[.slice (some ⟨gb, 0, none⟩) 16 cb, .bool false] w fun e w' => e = .returned (.slice (some ⟨w.heap.size, 0, none⟩) 16 16) ∧ Below w.heap.size w w' ∧ Arr w' w.heap.size 16 (bc (tnF f)) :=
  rturned_core false f (tnF f) id id ti gb cb (fun c r _ _ => rfl) (fun c r hc hr => by rw [ti_at c r hc hr]; rfl) (fun m _ => rfl) (fun m _ => rfl) (fun j m _ _ h => h) (fun j h => h) w hA
end Go.Proofs.Ytbodafogiijhnaa
/- FIPS 197's example, reckoned. -/
set_option linter.all false
set_option maxRecDepth 100000
namespace Go.Proofs.Ytbodafogiijhnaa
theorem tnF_congr {f g : Nat → By} (e : ∀ j, j < 16 → f j = g j) (j : Nat) (hj : j < 16) : tnF f j = tnF g j := by unfold tnF; rw [e _ (by omega)]
theorem beF_congr {f g : Nat → By} (t : By → By) (e : ∀ j, j < 16 → f j = g j) (j : Nat) (hj : j < 16) : beF t f j = beF t g j := by unfold beF; rw [e _ hj]
theorem mxF_congr {f g : Nat → By} (m0 m1 m2 m3 : By) (e : ∀ j, j < 16 → f j = g j) (j : Nat) (hj : j < 16) : mxF m0 m1 m2 m3 f j = mxF m0 m1 m2 m3 g j := by unfold mxF; rw [e _ (by omega), e _ (by omega), e _ (by omega), e _ (by omega)]
theorem rdE_congr (key : ByteArray) (i : Nat) {f g : Nat → By} (e : ∀ j, j < 16 → f j = g j) (j : Nat) (hj : j < 16) : rdE key i f j = rdE key i g j := by
  unfold rdE
  split
  · exact e j hj
  · split
    · exact tnF_congr (beF_congr sb e) j hj
    · exact mxF_congr _ _ _ _ (tnF_congr (beF_congr sb e)) j hj
def fipK : ByteArray := ⟨#[0, 1, 2, 3, 4, 5, 6, 7, 8, 9, 10, 11, 12, 13, 14, 15]⟩
def fipB : ByteArray := ⟨#[0, 17, 34, 51, 68, 85, 102, 119, 136, 153, 170, 187, 204, 221, 238, 255]⟩
def fipC : ByteArray := ⟨#[105, 196, 224, 216, 106, 123, 4, 48, 216, 205, 183, 128, 112, 180, 197, 90]⟩
def fipW : List Q4 := [(0, 1, 2, 3), (4, 5, 6, 7), (8, 9, 10, 11), (12, 13, 14, 15), (214, 170, 116, 253), (210, 175, 114, 250), (218, 166, 120, 241), (214, 171, 118, 254), (182, 146, 207, 11), (100, 61, 189, 241), (190, 155, 197, 0), (104, 48, 179, 254), (182, 255, 116, 78), (210, 194, 201, 191), (108, 89, 12, 191), (4, 105, 191, 65), (71, 247, 247, 188), (149, 53, 62, 3), (249, 108, 50, 188), (253, 5, 141, 253), (60, 170, 163, 232), (169, 159, 157, 235), (80, 243, 175, 87), (173, 246, 34, 170), (94, 57, 15, 125), (247, 166, 146, 150), (167, 85, 61, 193), (10, 163, 31, 107), (20, 249, 112, 26), (227, 95, 226, 140), (68, 10, 223, 77), (78, 169, 192, 38), (71, 67, 135, 53), (164, 28, 101, 185), (224, 22, 186, 244), (174, 191, 122, 210), (84, 153, 50, 209), (240, 133, 87, 104), (16, 147, 237, 156), (190, 44, 151, 78), (19, 17, 29, 127), (227, 148, 74, 23), (243, 7, 167, 139), (77, 43, 48, 197)]
def fipS : List (List By) := [[0, 17, 34, 51, 68, 85, 102, 119, 136, 153, 170, 187, 204, 221, 238, 255], [0, 16, 32, 48, 64, 80, 96, 112, 128, 144, 160, 176, 192, 208, 224, 240], [137, 216, 16, 232, 133, 90, 206, 104, 45, 24, 67, 216, 203, 18, 143, 228], [73, 21, 89, 143, 85, 229, 215, 160, 218, 202, 148, 250, 31, 10, 99, 247], [250, 99, 106, 40, 37, 179, 57, 201, 64, 102, 138, 49, 87, 36, 77, 23], [36, 114, 64, 35, 105, 102, 179, 250, 110, 210, 117, 50, 136, 66, 91, 108], [200, 22, 119, 188, 155, 122, 201, 59, 37, 2, 121, 146, 176, 38, 25, 150], [198, 47, 225, 9, 247, 94, 237, 195, 204, 121, 57, 93, 132, 249, 207, 93], [209, 135, 108, 15, 121, 196, 48, 10, 180, 85, 148, 173, 214, 111, 244, 31], [253, 227, 186, 210, 5, 229, 208, 215, 53, 71, 150, 78, 241, 254, 55, 241], [189, 110, 124, 61, 242, 181, 119, 158, 11, 97, 33, 110, 139, 16, 182, 137], [105, 196, 224, 216, 106, 123, 4, 48, 216, 205, 183, 128, 112, 180, 197, 90]]
theorem fipK_nk : nkO fipK = 4 := by decide
theorem fipW_chk : ∀ n : Fin 44, (if n.val < 4 then (bF fipK (4 * n.val), bF fipK (4 * n.val + 1), bF fipK (4 * n.val + 2), bF fipK (4 * n.val + 3)) else xQ (fipW.getD (n.val - 4) (0, 0, 0, 0)) (tQ 4 n.val (fipW.getD (n.val - 1) (0, 0, 0, 0)))) = fipW.getD n.val (0, 0, 0, 0) := by decide +kernel
theorem fipW_ok (n : Nat) (hn : n < 44) : kQ (bF fipK) 4 n = fipW.getD n (0, 0, 0, 0) := by
  induction n using Nat.strongRecOn with
  | _ n ih =>
    have c := fipW_chk ⟨n, hn⟩
    by_cases h : n < 4
    · rw [if_pos h] at c
      rw [kQ_lo _ _ _ h]
      exact c
    · rw [if_neg h] at c
      rw [kQ_hi _ _ _ (by omega) (by omega), ih (n - 4) (by omega) (by omega), ih (n - 1) (by omega) (by omega)]
      exact c
theorem fipS_chk : ∀ i : Fin 11, ∀ j : Fin 16, plF (rdE fipK i.val (fun q => (fipS.getD i.val []).getD q 0)) (fun q => bQ (fipW.getD ((16 * i.val + q) / 4) (0, 0, 0, 0)) ((16 * i.val + q) % 4)) j.val = (fipS.getD (i.val + 1) []).getD j.val 0 := by decide +kernel
theorem fipS_0 : ∀ j : Fin 16, bF fipB j.val = (fipS.getD 0 []).getD j.val 0 := by decide +kernel
theorem fipS_ok (i : Nat) (hi : i ≤ 11) : ∀ j, j < 16 → eS fipK (bF fipB) i j = (fipS.getD i []).getD j 0 := by
  induction i with
  | zero => intro j hj; exact fipS_0 ⟨j, hj⟩
  | succ i ih =>
    intro j hj
    rw [← fipS_chk ⟨i, by omega⟩ ⟨j, hj⟩]
    show xr (rdE fipK i (eS fipK (bF fipB) i) j) (rk fipK i j) = xr _ _
    rw [rdE_congr fipK i (ih (by omega)) j hj]
    congr 1
    unfold rk kB
    rw [fipK_nk, fipW_ok _ (by omega)]
theorem ex_enc : encS fipK fipB = fipC := by
  unfold encS encF
  rw [fipK_nk, tx_congr (fipS_ok 11 (by omega))]
  apply ba_ext
  rw [tx, mkS_list]
  decide
theorem ex_rfs : rfs fipK fipB = 0 := by decide
end Go.Proofs.Ytbodafogiijhnaa
/- Two blocks turned by the key of bytes 0, reckoned. -/
set_option linter.all false
set_option maxRecDepth 100000
namespace Go.Proofs.Ytbodafogiijhnaa
def zK : ByteArray := ⟨#[0, 0, 0, 0, 0, 0, 0, 0, 0, 0, 0, 0, 0, 0, 0, 0]⟩
def zW : List Q4 := [(0, 0, 0, 0), (0, 0, 0, 0), (0, 0, 0, 0), (0, 0, 0, 0), (98, 99, 99, 99), (98, 99, 99, 99), (98, 99, 99, 99), (98, 99, 99, 99), (155, 152, 152, 201), (249, 251, 251, 170), (155, 152, 152, 201), (249, 251, 251, 170), (144, 151, 52, 80), (105, 108, 207, 250), (242, 244, 87, 51), (11, 15, 172, 153), (238, 6, 218, 123), (135, 106, 21, 129), (117, 158, 66, 178), (126, 145, 238, 43), (127, 46, 43, 136), (248, 68, 62, 9), (141, 218, 124, 187), (243, 75, 146, 144), (236, 97, 75, 133), (20, 37, 117, 140), (153, 255, 9, 55), (106, 180, 155, 167), (33, 117, 23, 135), (53, 80, 98, 11), (172, 175, 107, 60), (198, 27, 240, 155), (14, 249, 3, 51), (59, 169, 97, 56), (151, 6, 10, 4), (81, 29, 250, 159), (177, 212, 216, 226), (138, 125, 185, 218), (29, 123, 179, 222), (76, 102, 73, 65), (180, 239, 91, 203), (62, 146, 226, 17), (35, 233, 81, 207), (111, 143, 24, 142)]
theorem zK_nk : nkO zK = 4 := by decide
theorem zW_chk : ∀ n : Fin 44, (if n.val < 4 then (bF zK (4 * n.val), bF zK (4 * n.val + 1), bF zK (4 * n.val + 2), bF zK (4 * n.val + 3)) else xQ (zW.getD (n.val - 4) (0, 0, 0, 0)) (tQ 4 n.val (zW.getD (n.val - 1) (0, 0, 0, 0)))) = zW.getD n.val (0, 0, 0, 0) := by decide +kernel
theorem zW_ok (n : Nat) (hn : n < 44) : kQ (bF zK) 4 n = zW.getD n (0, 0, 0, 0) := by
  induction n using Nat.strongRecOn with
  | _ n ih =>
    have c := zW_chk ⟨n, hn⟩
    by_cases h : n < 4
    · rw [if_pos h] at c
      rw [kQ_lo _ _ _ h]
      exact c
    · rw [if_neg h] at c
      rw [kQ_hi _ _ _ (by omega) (by omega), ih (n - 4) (by omega) (by omega), ih (n - 1) (by omega) (by omega)]
      exact c
def z1B : ByteArray := ⟨#[0, 0, 0, 0, 0, 0, 0, 0, 0, 0, 0, 0, 0, 0, 0, 1]⟩
def z1C : ByteArray := ⟨#[88, 226, 252, 206, 250, 126, 48, 97, 54, 127, 29, 87, 164, 231, 69, 90]⟩
def z1S : List (List By) := [[0, 0, 0, 0, 0, 0, 0, 0, 0, 0, 0, 0, 0, 0, 0, 1], [0, 0, 0, 0, 0, 0, 0, 0, 0, 0, 0, 0, 0, 0, 0, 1], [30, 31, 33, 62, 1, 0, 0, 0, 1, 0, 0, 0, 1, 0, 0, 0], [218, 234, 234, 153, 117, 86, 239, 81, 88, 93, 195, 21, 90, 218, 36, 75], [107, 120, 64, 75, 68, 221, 91, 251, 137, 115, 23, 228, 120, 135, 219, 170], [20, 71, 112, 136, 49, 23, 38, 231, 31, 3, 241, 64, 146, 108, 39, 163], [48, 221, 102, 216, 232, 254, 86, 127, 35, 221, 233, 210, 104, 84, 147, 4], [222, 216, 197, 211, 220, 57, 47, 229, 84, 30, 4, 241, 188, 21, 162, 105], [38, 184, 247, 169, 232, 26, 72, 30, 120, 21, 53, 10, 27, 34, 38, 25], [68, 36, 6, 182, 217, 81, 56, 157, 64, 77, 99, 196, 149, 251, 52, 133], [131, 247, 93, 208, 136, 243, 141, 226, 47, 131, 137, 25, 89, 53, 127, 54], [88, 226, 252, 206, 250, 126, 48, 97, 54, 127, 29, 87, 164, 231, 69, 90]]
theorem z1S_chk : ∀ i : Fin 11, ∀ j : Fin 16, plF (rdE zK i.val (fun q => (z1S.getD i.val []).getD q 0)) (fun q => bQ (zW.getD ((16 * i.val + q) / 4) (0, 0, 0, 0)) ((16 * i.val + q) % 4)) j.val = (z1S.getD (i.val + 1) []).getD j.val 0 := by decide +kernel
theorem z1S_0 : ∀ j : Fin 16, bF z1B j.val = (z1S.getD 0 []).getD j.val 0 := by decide +kernel
theorem z1S_ok (i : Nat) (hi : i ≤ 11) : ∀ j, j < 16 → eS zK (bF z1B) i j = (z1S.getD i []).getD j 0 := by
  induction i with
  | zero => intro j hj; exact z1S_0 ⟨j, hj⟩
  | succ i ih =>
    intro j hj
    rw [← z1S_chk ⟨i, by omega⟩ ⟨j, hj⟩]
    show xr (rdE zK i (eS zK (bF z1B) i) j) (rk zK i j) = xr _ _
    rw [rdE_congr zK i (ih (by omega)) j hj]
    congr 1
    unfold rk kB
    rw [zK_nk, zW_ok _ (by omega)]
theorem z1_enc : encS zK z1B = z1C := by
  unfold encS encF
  rw [zK_nk, tx_congr (z1S_ok 11 (by omega))]
  apply ba_ext
  rw [tx, mkS_list]
  decide
def z2B : ByteArray := ⟨#[0, 0, 0, 0, 0, 0, 0, 0, 0, 0, 0, 0, 0, 0, 0, 2]⟩
def z2C : ByteArray := ⟨#[3, 136, 218, 206, 96, 182, 163, 146, 243, 40, 194, 185, 113, 178, 254, 120]⟩
def z2S : List (List By) := [[0, 0, 0, 0, 0, 0, 0, 0, 0, 0, 0, 0, 0, 0, 0, 2], [0, 0, 0, 0, 0, 0, 0, 0, 0, 0, 0, 0, 0, 0, 0, 2], [21, 20, 60, 40, 1, 0, 0, 0, 1, 0, 0, 0, 1, 0, 0, 0], [140, 193, 193, 228, 243, 208, 126, 70, 78, 103, 239, 3, 20, 174, 30, 113], [180, 202, 123, 14, 252, 143, 24, 200, 185, 218, 130, 106, 228, 112, 94, 241], [200, 249, 250, 206, 246, 55, 164, 8, 227, 225, 36, 243, 159, 254, 180, 77], [212, 80, 11, 218, 105, 234, 3, 183, 100, 225, 220, 126, 170, 111, 85, 44], [25, 220, 0, 190, 69, 127, 110, 54, 126, 35, 84, 56, 84, 192, 156, 157], [129, 32, 179, 174, 243, 165, 100, 6, 226, 147, 235, 225, 143, 145, 122, 236], [59, 23, 137, 79, 96, 150, 40, 250, 38, 95, 120, 133, 206, 38, 171, 21], [32, 139, 34, 65, 157, 10, 245, 15, 96, 166, 145, 214, 233, 221, 248, 54], [3, 136, 218, 206, 96, 182, 163, 146, 243, 40, 194, 185, 113, 178, 254, 120]]
theorem z2S_chk : ∀ i : Fin 11, ∀ j : Fin 16, plF (rdE zK i.val (fun q => (z2S.getD i.val []).getD q 0)) (fun q => bQ (zW.getD ((16 * i.val + q) / 4) (0, 0, 0, 0)) ((16 * i.val + q) % 4)) j.val = (z2S.getD (i.val + 1) []).getD j.val 0 := by decide +kernel
theorem z2S_0 : ∀ j : Fin 16, bF z2B j.val = (z2S.getD 0 []).getD j.val 0 := by decide +kernel
theorem z2S_ok (i : Nat) (hi : i ≤ 11) : ∀ j, j < 16 → eS zK (bF z2B) i j = (z2S.getD i []).getD j 0 := by
  induction i with
  | zero => intro j hj; exact z2S_0 ⟨j, hj⟩
  | succ i ih =>
    intro j hj
    rw [← z2S_chk ⟨i, by omega⟩ ⟨j, hj⟩]
    show xr (rdE zK i (eS zK (bF z2B) i) j) (rk zK i j) = xr _ _
    rw [rdE_congr zK i (ih (by omega)) j hj]
    congr 1
    unfold rk kB
    rw [zK_nk, zW_ok _ (by omega)]
theorem z2_enc : encS zK z2B = z2C := by
  unfold encS encF
  rw [zK_nk, tx_congr (z2S_ok 11 (by omega))]
  apply ba_ext
  rw [tx, mkS_list]
  decide
end Go.Proofs.Ytbodafogiijhnaa
