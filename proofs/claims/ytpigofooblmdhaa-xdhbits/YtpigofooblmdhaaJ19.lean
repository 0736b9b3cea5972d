/- What the reference's Div answers. -/
import Derived.Deep.RegionHeld3
import Derived.Deep.CutRange
import Derived.Test.YtpigofooblmdhaaJ15
import Derived.Test.YtpigofooblmdhaaJ7
set_option linter.all false
namespace Go.Proofs.Ytpigofooblmdhaa
open Go.RowKit
def QS (w wr : World) (lo hi M Qv : Int) : Prop :=
  Below w.heap.size w wr ∧ w.heap.size + 1 + 1 + 1 + 1 + 1 + 1 + 1 < wr.heap.size ∧ Arr wr (w.heap.size) 4 (fun j => .int .u64 (lim lo j)) ∧ Arr wr (w.heap.size + 1) 4 (fun j => .int .u64 (lim hi j)) ∧ Arr wr (w.heap.size + 1 + 1) 4 (fun j => .int .u64 (lim M j)) ∧ Arr wr (w.heap.size + 1 + 1 + 1) 4 (fun _ => .int .u64 0) ∧ Arr wr (w.heap.size + 1 + 1 + 1 + 1) 4 (fun _ => .int .u64 0) ∧ Arr wr (w.heap.size + 1 + 1 + 1 + 1 + 1) 4 (fun _ => .int .u64 0) ∧ Arr wr (w.heap.size + 1 + 1 + 1 + 1 + 1 + 1 + 1) 8 (fun j => .int .u64 (lim Qv j))
theorem QS.below {w wr w' : World} {lo hi M Qv : Int} (h : QS w wr lo hi M Qv) (hb : Below wr.heap.size wr w') : QS w w' lo hi M Qv := by
  obtain ⟨a, b, c0, c1, c2, c3, c4, c5, c7⟩ := h
  have := hb.size
  exact ⟨a.trans (hb.mono a.size), by omega, c0.below hb (by omega), c1.below hb (by omega), c2.below hb (by omega), c3.below hb (by omega), c4.below hb (by omega), c5.below hb (by omega), c7.below hb (by omega)⟩
theorem QS.drew {w wr : World} {lo hi M Qv : Int} (h : QS w wr lo hi M Qv) : QS w wr.drew lo hi M Qv := by
  obtain ⟨a, b, c0, c1, c2, c3, c4, c5, c7⟩ := h
  exact ⟨a.drew, b, c0.drew, c1.drew, c2.drew, c3.drew, c4.drew, c5.drew, c7.drew⟩
theorem QS.setr {w wr : World} {lo hi M Qv : Int} (h : QS w wr lo hi M Qv) (k : Nat) (v : Value) : QS w (wr.setCell ⟨w.heap.size + 1 + 1 + 1 + 1 + 1 + 1, k, none⟩ v) lo hi M Qv := by
  obtain ⟨a, b, c0, c1, c2, c3, c4, c5, c7⟩ := h
  exact ⟨a.setCell (by show _ ≤ w.heap.size + 1 + 1 + 1 + 1 + 1 + 1; omega) _, by rw [size_set]; exact b, c0.other (by omega) _, c1.other (by omega) _, c2.other (by omega) _, c3.other (by omega) _, c4.other (by omega) _, c5.other (by omega) _, c7.other (by omega) _⟩
theorem QS.setq {w wr : World} {lo hi M Qv Qw : Int} (h : QS w wr lo hi M Qv) (k : Nat) (hk : k < 8) (v : Int) (hq : ∀ j, j < 8 → lim Qw j = if j = k then v else lim Qv j) : QS w (wr.setCell ⟨w.heap.size + 1 + 1 + 1 + 1 + 1 + 1 + 1, k, none⟩ (.int .u64 v)) lo hi M Qw := by
  obtain ⟨a, b, c0, c1, c2, c3, c4, c5, c7⟩ := h
  refine ⟨a.setCell (by show _ ≤ w.heap.size + 1 + 1 + 1 + 1 + 1 + 1 + 1; omega) _, by rw [size_set]; exact b, c0.other (by omega) _, c1.other (by omega) _, c2.other (by omega) _, c3.other (by omega) _, c4.other (by omega) _, c5.other (by omega) _, (c7.set k hk _).congr ?_⟩
  intro j hj
  rw [hq j hj]
  by_cases e : j = k
  · rw [if_pos e, if_pos e]
  · rw [if_neg e, if_neg e]
theorem QS.keep {w wr : World} {lo hi M Qv Qw : Int} (h : QS w wr lo hi M Qv) (e : Qw = Qv) : QS w wr lo hi M Qw := by rw [e]; exact h
attribute [local go_sem] eq24
set_option maxRecDepth 100000 in
set_option maxHeartbeats 4000000 in
theorem refDiv_raw (lo hi M F : Int) (w : World) (hF0 : 0 ≤ F) (hFt : F < top256 * top256)
    (hz : (lim M 0 == 0 && (lim M 1 == 0 && (lim M 2 == 0 && lim M 3 == 0))) = false) (hM : 0 < M) (hM' : M < top256)
    (hlo : ∀ (m : Nat) W, m < 256 → Calls Try.prog 72 #[nv lo, .int .i64 (m : Int)] W fun e w' => e = .returned (.int .u64 (F / 2 ^ m % 2)) ∧ Below W.heap.size W w')
    (hhi : ∀ (m : Nat) W, 256 ≤ m → m < 512 → Calls Try.prog 72 #[nv hi, .int .i64 ((m : Int) - 256)] W fun e w' => e = .returned (.int .u64 (F / 2 ^ m % 2)) ∧ Below W.heap.size W w') :
    Calls Try.prog 60 #[nv lo, nv hi, nv M] w fun e w' => e = .returned (.tuple #[nv (F / M), nv (F / M / top256), nv (F % M), .int .i64 0]) ∧ Below w.heap.size w w' := by
  go_enter Try.func60, Try.ntmps60
  go_wp2_with fail
  go_loopw [12] (fun i wr => ∃ k : Nat, k ≤ 512 ∧ i = .int .i64 ((k : Int) - 1) ∧ QS w wr lo hi M (qk F M k) ∧ Arr wr (w.heap.size + 1 + 1 + 1 + 1 + 1 + 1) 4 (fun j => .int .u64 (lim (rk F M k) j)))
    (fun i _ => (intOf i + 1).toNat)
  case atStart =>
    have e256 : (2 : Int) ^ 256 = top256 := by decide
    have p512 : (2 : Int) ^ 512 = top256 * top256 := by rw [show 512 = 256 + 256 from rfl, Int.pow_add, e256]
    have f0 : F / 2 ^ 512 = 0 := by rw [p512]; exact Int.ediv_eq_zero_of_lt hF0 hFt
    have q0 : qk F M 512 = 0 := by
      have hb : F / M ≤ F := Int.ediv_le_self _ hF0
      have hb0 : 0 ≤ F / M := Int.ediv_nonneg hF0 (Int.le_of_lt hM)
      unfold qk; rw [p512, Int.ediv_eq_zero_of_lt hb0 (by omega), Int.zero_mul]
    have r0 : rk F M 512 = 0 := by unfold rk; rw [f0]; exact Int.zero_emod _
    have z : ∀ j, lim 0 j = 0 := fun j => by unfold lim; simp
    refine ⟨512, by omega, by go_num, ⟨by go_grown, by go_size, Arr.mk4 (by simp [go_sem]) (by simp [go_sem]) (by simp [go_sem]) (by simp [go_sem]) (by simp [go_sem]) (by simp [go_sem]) (by simp [go_sem]) (by simp [go_sem]) , Arr.mk4 (by simp [go_sem]) (by simp [go_sem]) (by simp [go_sem]) (by simp [go_sem]) (by simp [go_sem]) (by simp [go_sem]) (by simp [go_sem]) (by simp [go_sem]) , Arr.mk4 (by simp [go_sem]) (by simp [go_sem]) (by simp [go_sem]) (by simp [go_sem]) (by simp [go_sem]) (by simp [go_sem]) (by simp [go_sem]) (by simp [go_sem]) , Arr.mk4 (by simp [go_sem]) (by simp [go_sem]) (by simp [go_sem]) (by simp [go_sem]) (by simp [go_sem]) (by simp [go_sem]) (by simp [go_sem]) (by simp [go_sem]) , Arr.mk4 (by simp [go_sem]) (by simp [go_sem]) (by simp [go_sem]) (by simp [go_sem]) (by simp [go_sem]) (by simp [go_sem]) (by simp [go_sem]) (by simp [go_sem]) , Arr.mk4 (by simp [go_sem]) (by simp [go_sem]) (by simp [go_sem]) (by simp [go_sem]) (by simp [go_sem]) (by simp [go_sem]) (by simp [go_sem]) (by simp [go_sem]) , ?_⟩, ?_⟩
    · rw [q0]
      exact Arr.congr (f := fun _ => .int .u64 0) (Arr.mk8' (by simp [go_sem]) (by simp [go_sem]) (by simp [go_sem]) (by simp [go_sem]) (by simp [go_sem]) (by simp [go_sem]) (by simp [go_sem]) (by simp [go_sem]) (by simp [go_sem])) (by intro j _; rw [z])
    · rw [r0]
      exact Arr.congr (f := fun _ => .int .u64 0) (Arr.mk4 (by simp [go_sem]) (by simp [go_sem]) (by simp [go_sem]) (by simp [go_sem]) (by simp [go_sem]) (by simp [go_sem]) (by simp [go_sem]) (by simp [go_sem]) ) (by intro j _; rw [z])
  case round =>
    obtain ⟨k, hk, rfl, HS, Ra⟩ := hrel
    match k, hk with
    | 0, _ =>
      have i1 : ((0 : Nat) : Int) - 1 = -1 := by omega
      have eq : qk F M 0 = F / M := by unfold qk; simp
      have er : rk F M 0 = F % M := by unfold rk; simp
      rw [eq] at HS
      rw [er] at Ra
      have l4 : lim (F / M) 4 = lim (F / M / top256) 0 := lim_add4 _ 0
      have l5 : lim (F / M) 5 = lim (F / M / top256) 1 := lim_add4 _ 1
      have l6 : lim (F / M) 6 = lim (F / M / top256) 2 := lim_add4 _ 2
      have l7 : lim (F / M) 7 = lim (F / M / top256) 3 := lim_add4 _ 3
      obtain ⟨hB, hsz, c0, c1, c2, c3, c4, c5, c7⟩ := HS
      have r7 := c7.c
      have r6 := Ra.c
      have r3 := c3.c
      have z3 := c3.z
      have r4 := c4.c
      have z4 := c4.z
      have r5 := c5.c
      have z5 := c5.z
      clear c0 c1 c2 c3 c4 c5 c7 Ra hlo hhi
      go_wp2_with fail
      have g7 : ∀ j, j < 4 → wr.cell? ⟨w.heap.size + 1 + 1 + 1 + 1 + 1 + 1 + 1, j + 4, none⟩ = some (.int .u64 (lim (F / M / top256) j)) := fun j hj => by rw [r7 (j + 4) (by omega), lim_add4]
      have d0 := g7 0 (by omega)
      have d1 := g7 1 (by omega)
      have d2 := g7 2 (by omega)
      have d3 := g7 3 (by omega)
      clear g7
      go_region_held3 (fun w' => w'.cell? ⟨w.heap.size + 1 + 1 + 1 + 1 + 1 + 1 + 1, 0, none⟩ = some (.int .u64 (lim (F / M) 0)) ∧ w'.cell? ⟨w.heap.size + 1 + 1 + 1 + 1 + 1 + 1 + 1, 1, none⟩ = some (.int .u64 (lim (F / M) 1)) ∧ w'.cell? ⟨w.heap.size + 1 + 1 + 1 + 1 + 1 + 1 + 1, 2, none⟩ = some (.int .u64 (lim (F / M) 2)) ∧ w'.cell? ⟨w.heap.size + 1 + 1 + 1 + 1 + 1 + 1 + 1, 3, none⟩ = some (.int .u64 (lim (F / M) 3)) ∧ w'.cell? ⟨w.heap.size + 1 + 1 + 1 + 1 + 1 + 1 + 1, 4, none⟩ = some (.int .u64 (lim (F / M / top256) 0)) ∧ w'.cell? ⟨w.heap.size + 1 + 1 + 1 + 1 + 1 + 1 + 1, 5, none⟩ = some (.int .u64 (lim (F / M / top256) 1)) ∧ w'.cell? ⟨w.heap.size + 1 + 1 + 1 + 1 + 1 + 1 + 1, 6, none⟩ = some (.int .u64 (lim (F / M / top256) 2)) ∧ w'.cell? ⟨w.heap.size + 1 + 1 + 1 + 1 + 1 + 1 + 1, 7, none⟩ = some (.int .u64 (lim (F / M / top256) 3)) ∧ w'.cell? ⟨w.heap.size + 1 + 1 + 1 + 1 + 1 + 1, 0, none⟩ = some (.int .u64 (lim (F % M) 0)) ∧ w'.cell? ⟨w.heap.size + 1 + 1 + 1 + 1 + 1 + 1, 1, none⟩ = some (.int .u64 (lim (F % M) 1)) ∧ w'.cell? ⟨w.heap.size + 1 + 1 + 1 + 1 + 1 + 1, 2, none⟩ = some (.int .u64 (lim (F % M) 2)) ∧ w'.cell? ⟨w.heap.size + 1 + 1 + 1 + 1 + 1 + 1, 3, none⟩ = some (.int .u64 (lim (F % M) 3))) (go_keep) (fail)
      go_wp2_with fail
      refine bodyPost_ret (v := .tuple #[nv (F / M), nv (F / M / top256), nv (F % M), .int .i64 0]) (by simp [results, Try.results60, go_sem, r3, r4, r5]) rfl ⟨rfl, ?_⟩
      go_grown
    | m + 1, hm =>
      have i1 : ((m + 1 : Nat) : Int) - 1 = (m : Int) := by omega
      rw [i1]
      have m0 : (0 : Int) ≤ (m : Int) := by omega
      have m5 : (m : Int) < 512 := by omega
      have rb := rk_bd F M (m + 1) hM
      have st := step_div F M m hM
      have b0 : 0 ≤ F / 2 ^ m % 2 := by omega
      have b1 : F / 2 ^ m % 2 ≤ 1 := by omega
      have BT := fun W => refBit_in (rk F M (m + 1)) 255 3 63 rfl (by omega) (by omega) W
      have AD := fun W => refAdd_raw (rk F M (m + 1)) (rk F M (m + 1)) W
      obtain ⟨T1, hT1⟩ : ∃ T1, T1 = rk F M (m + 1) + rk F M (m + 1) + F / 2 ^ m % 2 := ⟨_, rfl⟩
      have ob := or_bit (rk F M (m + 1) + rk F M (m + 1)) (F / 2 ^ m % 2) (by omega) b0 b1
      rw [← hT1] at ob
      simp only [nv, ← ob.2.1, ← ob.2.2.1, ← ob.2.2.2] at AD
      have OB := ob.1
      obtain ⟨t0, ht0⟩ : ∃ t0, t0 = lim (rk F M (m + 1) + rk F M (m + 1)) 0 := ⟨_, rfl⟩
      rw [← ht0] at OB
      simp only [← ht0] at AD
      clear ob ht0
      generalize cy (rk F M (m + 1)) (rk F M (m + 1)) 4 = cc at AD
      have SB0 := fun W => refSub_raw (T1 % top256) M W
      have CM0 := fun W => refCmp_any (T1 % top256) M (by unfold top256; omega) (by unfold top256; omega) (Int.le_of_lt hM) hM' W
      have e255 : (2 : Int) ^ 255 = 57896044618658097711785492504343953926634992332820282019728792003956564819968 := by decide
      have c6 := Ra.c
      obtain ⟨a, kk, b', c', hma, hmk, hkb, hkc, jlt, hjm, hcm⟩ : ∃ a kk b' c' : Nat, (m : Int) / 256 = (a : Int) ∧ (m : Int) % 256 = (kk : Int) ∧ (kk : Int) / 64 = (b' : Int) ∧ (kk : Int) % 64 = (c' : Int) ∧ a * 4 + b' < 8 ∧ a * 4 + b' = m / 64 ∧ c' = m % 64 := ⟨m / 256, m % 256, m % 256 / 64, m % 256 % 64, by omega, by omega, by omega, by omega, by omega, by omega, by omega⟩
      have a0 : (0 : Int) ≤ (a : Int) := by omega
      have a2 : (a : Int) < 2 := by omega
      have bb0 : (0 : Int) ≤ (b' : Int) := by omega
      have bb4 : (b' : Int) < 4 := by omega
      have cc0 : (0 : Int) ≤ (c' : Int) := by omega
      have cc64 : (c' : Int) < 64 := by omega
      have kk0 : (0 : Int) ≤ (kk : Int) := by omega
      have kk5 : (kk : Int) ≤ 255 := by omega
      have RKm := st.1
      have eT : 2 * rk F M (m + 1) + F / 2 ^ m % 2 = T1 := by omega
      rw [eT] at RKm
      have QS8 : Hid (M ≤ T1 → ∀ j, j < 8 → lim (qk F M m) j = if j = a * 4 + b' then bits .or .u64 (lim (qk F M (m + 1)) (a * 4 + b')) (2 ^ c') else lim (qk F M (m + 1)) j) := fun h j _ => by
        rw [q_set F M m j hM hF0 (by rw [eT]; exact h), hjm, hcm]
        by_cases e : j = m / 64
        · rw [if_pos e, if_pos e, e]
        · rw [if_neg e, if_neg e]
      have QK0 : Hid (¬ M ≤ T1 → qk F M m = qk F M (m + 1)) := fun h => q_keep F M m hM (by rw [eT]; exact h)
      have pc1 : (2 : Int) ^ c' < 18446744073709551616 := by
        have h : (2 : Nat) ^ c' < 2 ^ 64 := Nat.pow_lt_pow_right (by omega) (by omega)
        have h1 : ((2 ^ c' : Nat) : Int) < ((2 ^ 64 : Nat) : Int) := Int.ofNat_lt.2 h
        have h2 : ((2 ^ c' : Nat) : Int) = 2 ^ c' := by push_cast; rfl
        have h3 : ((2 ^ 64 : Nat) : Int) = 18446744073709551616 := rfl
        omega
      have pc0 : (0 : Int) < 2 ^ c' := Int.pow_pos (by omega)
      have HW : Hid (IntKind.u64.wrap (2 ^ c') = 2 ^ c') := (by rw [IntKind.wrap_u64]; omega : IntKind.u64.wrap (2 ^ c') = 2 ^ c')
      have HP : Hid (0 < (2 : Int) ^ c' ∧ (2 : Int) ^ c' < 18446744073709551616) := ⟨pc0, pc1⟩
      clear pc0 pc1
      generalize hb : F / 2 ^ m % 2 = b at *
      have HBlo : Hid (m < 256 → ∀ W, Calls Try.prog 72 #[nv lo, .int .i64 (m : Int)] W fun e w' => e = .returned (.int .u64 b) ∧ Below W.heap.size W w') := fun h W => by rw [← hb]; exact hlo m W h
      have HBhi : Hid (256 ≤ m → ∀ W, Calls Try.prog 72 #[nv hi, .int .i64 ((m : Int) - 256)] W fun e w' => e = .returned (.int .u64 b) ∧ Below W.heap.size W w') := fun h W => by rw [← hb]; exact hhi m W h (by omega)
      have HT : Hid (T1 = rk F M (m + 1) + rk F M (m + 1) + b) := hT1
      clear hb hlo hhi st hjm hcm eT hT1
      go_wp2_with fail
      refine (BT _).mono ?_
      rintro e w1 ⟨rfl, hb1⟩
      have S1 := HS.below hb1
      have Ra1 := Ra.below hb1 (by have := HS.2.1; omega)
      have r6 := Ra1.c
      clear hb1 c6
      go_wp2_with fail
      refine (AD _).mono ?_
      rintro e w2 ⟨rfl, hb2⟩
      have S2 := S1.below hb2
      have Ra2 := Ra1.below hb2 (by have := S1.2.1; omega)
      have c6 := Ra2.c
      have z6 := Ra2.z
      have S2' : QS w ((((w2.setCell ⟨w.heap.size + 1 + 1 + 1 + 1 + 1 + 1, 0, none⟩ (.int .u64 t0)).setCell ⟨w.heap.size + 1 + 1 + 1 + 1 + 1 + 1, 1, none⟩ (.int .u64 (lim T1 1))).setCell ⟨w.heap.size + 1 + 1 + 1 + 1 + 1 + 1, 2, none⟩ (.int .u64 (lim T1 2))).setCell ⟨w.heap.size + 1 + 1 + 1 + 1 + 1 + 1, 3, none⟩ (.int .u64 (lim T1 3))) lo hi M (qk F M (m + 1)) := (((S2.setr 0 _).setr 1 _).setr 2 _).setr 3 _
      have Ra2' : Arr ((((w2.setCell ⟨w.heap.size + 1 + 1 + 1 + 1 + 1 + 1, 0, none⟩ (.int .u64 t0)).setCell ⟨w.heap.size + 1 + 1 + 1 + 1 + 1 + 1, 1, none⟩ (.int .u64 (lim T1 1))).setCell ⟨w.heap.size + 1 + 1 + 1 + 1 + 1 + 1, 2, none⟩ (.int .u64 (lim T1 2))).setCell ⟨w.heap.size + 1 + 1 + 1 + 1 + 1 + 1, 3, none⟩ (.int .u64 (lim T1 3))) (w.heap.size + 1 + 1 + 1 + 1 + 1 + 1) 4 (fun j => .int .u64 (if j = 0 then t0 else lim T1 j)) := set4 Ra2 _ _ _ _ _ rfl rfl rfl rfl
      have hsz2 : w.heap.size + 1 + 1 + 1 + 1 + 1 + 1 < (((((w2.setCell ⟨w.heap.size + 1 + 1 + 1 + 1 + 1 + 1, 0, none⟩ (.int .u64 t0)).setCell ⟨w.heap.size + 1 + 1 + 1 + 1 + 1 + 1, 1, none⟩ (.int .u64 (lim T1 1))).setCell ⟨w.heap.size + 1 + 1 + 1 + 1 + 1 + 1, 2, none⟩ (.int .u64 (lim T1 2))).setCell ⟨w.heap.size + 1 + 1 + 1 + 1 + 1 + 1, 3, none⟩ (.int .u64 (lim T1 3))).drew).heap.size := by simp only [World.size_drew, size_set]; have := S2.2.1; omega
      have HZ2 : Hid (w.heap.size + 1 + 1 + 1 + 1 + 1 + 1 < (((((w2.setCell ⟨w.heap.size + 1 + 1 + 1 + 1 + 1 + 1, 0, none⟩ (.int .u64 t0)).setCell ⟨w.heap.size + 1 + 1 + 1 + 1 + 1 + 1, 1, none⟩ (.int .u64 (lim T1 1))).setCell ⟨w.heap.size + 1 + 1 + 1 + 1 + 1 + 1, 2, none⟩ (.int .u64 (lim T1 2))).setCell ⟨w.heap.size + 1 + 1 + 1 + 1 + 1 + 1, 3, none⟩ (.int .u64 (lim T1 3))).drew).heap.size) := hsz2
      have HS2 : Hid (QS w ((((w2.setCell ⟨w.heap.size + 1 + 1 + 1 + 1 + 1 + 1, 0, none⟩ (.int .u64 t0)).setCell ⟨w.heap.size + 1 + 1 + 1 + 1 + 1 + 1, 1, none⟩ (.int .u64 (lim T1 1))).setCell ⟨w.heap.size + 1 + 1 + 1 + 1 + 1 + 1, 2, none⟩ (.int .u64 (lim T1 2))).setCell ⟨w.heap.size + 1 + 1 + 1 + 1 + 1 + 1, 3, none⟩ (.int .u64 (lim T1 3))) lo hi M (qk F M (m + 1))) := S2'
      have HRa2 : Hid (Arr ((((w2.setCell ⟨w.heap.size + 1 + 1 + 1 + 1 + 1 + 1, 0, none⟩ (.int .u64 t0)).setCell ⟨w.heap.size + 1 + 1 + 1 + 1 + 1 + 1, 1, none⟩ (.int .u64 (lim T1 1))).setCell ⟨w.heap.size + 1 + 1 + 1 + 1 + 1 + 1, 2, none⟩ (.int .u64 (lim T1 2))).setCell ⟨w.heap.size + 1 + 1 + 1 + 1 + 1 + 1, 3, none⟩ (.int .u64 (lim T1 3))) (w.heap.size + 1 + 1 + 1 + 1 + 1 + 1) 4 (fun j => .int .u64 (if j = 0 then t0 else lim T1 j))) := Ra2'
      clear r6 hb2 Ra1 S1 HS Ra BT AD hsz2 S2' Ra2'
      go_upto_if 36 with fail
      have chi := S2.2.2.2.1.c
      have clo := S2.2.2.1.c
      clear S2 Ra2
      go_cut [] from 23 to 84 (fun wx => QS w wx lo hi M (qk F M (m + 1)) ∧ Arr wx (w.heap.size + 1 + 1 + 1 + 1 + 1 + 1) 4 (fun j => .int .u64 (lim T1 j)))
      case first =>
        have rr : ((((w2.setCell ⟨w.heap.size + 1 + 1 + 1 + 1 + 1 + 1, 0, none⟩ (.int .u64 t0)).setCell ⟨w.heap.size + 1 + 1 + 1 + 1 + 1 + 1, 1, none⟩ (.int .u64 (lim T1 1))).setCell ⟨w.heap.size + 1 + 1 + 1 + 1 + 1 + 1, 2, none⟩ (.int .u64 (lim T1 2))).setCell ⟨w.heap.size + 1 + 1 + 1 + 1 + 1 + 1, 3, none⟩ (.int .u64 (lim T1 3))).cell? ⟨w.heap.size + 1 + 1 + 1 + 1 + 1 + 1, 0, none⟩ = some (.int .u64 t0) := HRa2.out.c 0 (by omega)
        clear QS8 QK0 SB0 CM0 RKm rb e255 HW HP hma hmk hkb hkc jlt a0 a2 bb0 bb4 cc0 cc64 kk0 kk5
        by_cases hbig : 256 ≤ m
        · have BB := HBhi.out hbig
          have hbi : (256 : Int) ≤ (m : Int) := by omega
          have hwm : IntKind.i64.wrap ((m : Int) - 256) = (m : Int) - 256 := by rw [IntKind.wrap_i64]; omega
          have rs := HS2.out.2.2.2.1.c
          clear clo
          clear HBhi HBlo
          go_wp2_with fail
          go_region_with (go_at_call 72; refine (BB _).mono ?_; rintro e w3 ⟨rfl, hb3⟩; have S3 := HS2.out.drew.below hb3; have Ra3 := HRa2.out.drew.below hb3 HZ2.out; have r0' := Ra3.c 0 (by omega); have z0' := Ra3.z 0 (by omega))
          all_goals
            go_wp2_with fail
            go_meet
            case rel => exact ⟨S3.setr 0 _, (Ra3.set 0 (by omega) _).congr (by intro j hj; by_cases e : j = 0 <;> simp [e])⟩
        · have BB := HBlo.out (by omega)
          have hbi : ¬ (256 : Int) ≤ (m : Int) := by omega
          have rs := HS2.out.2.2.1.c
          clear chi
          clear HBhi HBlo
          go_wp2_with fail
          go_region_with (go_at_call 72; refine (BB _).mono ?_; rintro e w3 ⟨rfl, hb3⟩; have S3 := HS2.out.drew.below hb3; have Ra3 := HRa2.out.drew.below hb3 HZ2.out; have r0' := Ra3.c 0 (by omega); have z0' := Ra3.z 0 (by omega))
          all_goals
            go_wp2_with fail
            go_meet
            case rel => exact ⟨S3.setr 0 _, (Ra3.set 0 (by omega) _).congr (by intro j hj; by_cases e : j = 0 <;> simp [e])⟩
      case rest =>
        obtain ⟨S4, Ra4⟩ := hcut
        have hT1 := HT.out
        clear HBlo HBhi HS2 HRa2 HZ2 OB c6 z6 chi clo
        have r6 := Ra4.c
        have r2 := S4.2.2.2.2.1.c
        by_cases hA : 57896044618658097711785492504343953926634992332820282019728792003956564819968 ≤ rk F M (m + 1)
        · have bt : rk F M (m + 1) / 2 ^ 255 % 2 = 1 := by rw [e255]; unfold top256 at hM'; omega
          have cM : M ≤ T1 := by unfold top256 at hM'; omega
          rw [if_pos cM] at RKm
          have QS8' : Hid _ := QS8.out cM
          have em : (T1 % top256 - M) % top256 = rk F M m := by rw [RKm]; unfold top256 at *; omega
          have SB := SB0
          rw [nv_mod T1, ← nv_mod (T1 % top256 - M), em] at SB
          generalize bw (T1 % top256) M 4 = bo at SB
          clear SB0 CM0 em QK0 QS8 hA RKm cM hT1 e255 rb b0 b1
          go_wp2_with fail
          refine (SB _).mono ?_
          rintro e w5 ⟨rfl, hb5⟩
          have S6 := S4.below hb5
          have Ra6 := Ra4.below hb5 (by have := S4.2.1; omega)
          clear r6 r2 hb5 S4 Ra4 SB
          have c6 := Ra6.c
          have z6 := Ra6.z
          have S7 : QS w ((((w5.setCell ⟨w.heap.size + 1 + 1 + 1 + 1 + 1 + 1, 0, none⟩ (.int .u64 (lim (rk F M m) 0))).setCell ⟨w.heap.size + 1 + 1 + 1 + 1 + 1 + 1, 1, none⟩ (.int .u64 (lim (rk F M m) 1))).setCell ⟨w.heap.size + 1 + 1 + 1 + 1 + 1 + 1, 2, none⟩ (.int .u64 (lim (rk F M m) 2))).setCell ⟨w.heap.size + 1 + 1 + 1 + 1 + 1 + 1, 3, none⟩ (.int .u64 (lim (rk F M m) 3))) lo hi M (qk F M (m + 1)) := (((S6.setr 0 _).setr 1 _).setr 2 _).setr 3 _
          have Ra7 : Arr ((((w5.setCell ⟨w.heap.size + 1 + 1 + 1 + 1 + 1 + 1, 0, none⟩ (.int .u64 (lim (rk F M m) 0))).setCell ⟨w.heap.size + 1 + 1 + 1 + 1 + 1 + 1, 1, none⟩ (.int .u64 (lim (rk F M m) 1))).setCell ⟨w.heap.size + 1 + 1 + 1 + 1 + 1 + 1, 2, none⟩ (.int .u64 (lim (rk F M m) 2))).setCell ⟨w.heap.size + 1 + 1 + 1 + 1 + 1 + 1, 3, none⟩ (.int .u64 (lim (rk F M m) 3))) (w.heap.size + 1 + 1 + 1 + 1 + 1 + 1) 4 (fun j => .int .u64 (lim (rk F M m) j)) := set4 Ra6 _ _ _ _ _ rfl rfl rfl rfl
          clear S6 Ra6
          go_upto_region 16 with fail
          clear c6 z6
          generalize ((((w5.setCell ⟨w.heap.size + 1 + 1 + 1 + 1 + 1 + 1, 0, none⟩ (.int .u64 (lim (rk F M m) 0))).setCell ⟨w.heap.size + 1 + 1 + 1 + 1 + 1 + 1, 1, none⟩ (.int .u64 (lim (rk F M m) 1))).setCell ⟨w.heap.size + 1 + 1 + 1 + 1 + 1 + 1, 2, none⟩ (.int .u64 (lim (rk F M m) 2))).setCell ⟨w.heap.size + 1 + 1 + 1 + 1 + 1 + 1, 3, none⟩ (.int .u64 (lim (rk F M m) 3))) = w5' at *
          have rq := S7.2.2.2.2.2.2.2.2.c (a * 4 + b') jlt
          have zq := S7.2.2.2.2.2.2.2.2.z (a * 4 + b') jlt
          have S8 := S7.drew.setq (Qw := qk F M m) (a * 4 + b') jlt (bits .or .u64 (lim (qk F M (m + 1)) (a * 4 + b')) (2 ^ c')) QS8'.out
          have Ra8 := Ra7.drew.other (b' := w.heap.size + 1 + 1 + 1 + 1 + 1 + 1 + 1) (k := a * 4 + b') (by omega) (.int .u64 (bits .or .u64 (lim (qk F M (m + 1)) (a * 4 + b')) (2 ^ c')))
          clear S7 Ra7 QS8'
          have hw := HW.out
          obtain ⟨pc0, pc1⟩ := HP.out
          go_region
          go_wp2_with fail
          go_roundw
          case rel => exact ⟨m, by omega, by go_num, S8, Ra8⟩
          case measure => simp [intOf]
        · have bt : rk F M (m + 1) / 2 ^ 255 % 2 = 0 := by rw [e255]; omega
          have eT1 : T1 % top256 = T1 := by unfold top256; omega
          have CM := CM0
          rw [eT1] at CM
          by_cases cM : M ≤ T1
          · rw [if_pos cM] at RKm
            have QS8' : Hid _ := QS8.out cM
            have SB := SB0
            rw [eT1, ← RKm] at SB
            generalize bw T1 M 4 = bo at SB
            have hsg : 0 ≤ sg T1 M := by unfold sg; rw [if_neg (by omega)]; split <;> omega
            generalize sg T1 M = sgv at *
            clear SB0 CM0 eT1 QK0 QS8 hA RKm cM hT1 e255 rb b0 b1
            go_wp2_with fail
            refine (CM _).mono ?_
            rintro e w4 ⟨rfl, hb4⟩
            have S5 := S4.below hb4
            have Ra5 := Ra4.below hb4 (by have := S4.2.1; omega)
            clear r6 r2 hb4 S4 Ra4 CM
            have r6 := Ra5.c
            have r2 := S5.2.2.2.2.1.c
            go_wp2_with fail
            refine (SB _).mono ?_
            rintro e w5 ⟨rfl, hb5⟩
            have S6 := S5.below hb5
            have Ra6 := Ra5.below hb5 (by have := S5.2.1; omega)
            clear r6 r2 hb5 S5 Ra5 SB
            have c6 := Ra6.c
            have z6 := Ra6.z
            have S7 : QS w ((((w5.setCell ⟨w.heap.size + 1 + 1 + 1 + 1 + 1 + 1, 0, none⟩ (.int .u64 (lim (rk F M m) 0))).setCell ⟨w.heap.size + 1 + 1 + 1 + 1 + 1 + 1, 1, none⟩ (.int .u64 (lim (rk F M m) 1))).setCell ⟨w.heap.size + 1 + 1 + 1 + 1 + 1 + 1, 2, none⟩ (.int .u64 (lim (rk F M m) 2))).setCell ⟨w.heap.size + 1 + 1 + 1 + 1 + 1 + 1, 3, none⟩ (.int .u64 (lim (rk F M m) 3))) lo hi M (qk F M (m + 1)) := (((S6.setr 0 _).setr 1 _).setr 2 _).setr 3 _
            have Ra7 : Arr ((((w5.setCell ⟨w.heap.size + 1 + 1 + 1 + 1 + 1 + 1, 0, none⟩ (.int .u64 (lim (rk F M m) 0))).setCell ⟨w.heap.size + 1 + 1 + 1 + 1 + 1 + 1, 1, none⟩ (.int .u64 (lim (rk F M m) 1))).setCell ⟨w.heap.size + 1 + 1 + 1 + 1 + 1 + 1, 2, none⟩ (.int .u64 (lim (rk F M m) 2))).setCell ⟨w.heap.size + 1 + 1 + 1 + 1 + 1 + 1, 3, none⟩ (.int .u64 (lim (rk F M m) 3))) (w.heap.size + 1 + 1 + 1 + 1 + 1 + 1) 4 (fun j => .int .u64 (lim (rk F M m) j)) := set4 Ra6 _ _ _ _ _ rfl rfl rfl rfl
            clear S6 Ra6
            go_upto_region 16 with fail
            clear c6 z6
            generalize ((((w5.setCell ⟨w.heap.size + 1 + 1 + 1 + 1 + 1 + 1, 0, none⟩ (.int .u64 (lim (rk F M m) 0))).setCell ⟨w.heap.size + 1 + 1 + 1 + 1 + 1 + 1, 1, none⟩ (.int .u64 (lim (rk F M m) 1))).setCell ⟨w.heap.size + 1 + 1 + 1 + 1 + 1 + 1, 2, none⟩ (.int .u64 (lim (rk F M m) 2))).setCell ⟨w.heap.size + 1 + 1 + 1 + 1 + 1 + 1, 3, none⟩ (.int .u64 (lim (rk F M m) 3))) = w5' at *
            have rq := S7.2.2.2.2.2.2.2.2.c (a * 4 + b') jlt
            have zq := S7.2.2.2.2.2.2.2.2.z (a * 4 + b') jlt
            have S8 := S7.drew.setq (Qw := qk F M m) (a * 4 + b') jlt (bits .or .u64 (lim (qk F M (m + 1)) (a * 4 + b')) (2 ^ c')) QS8'.out
            have Ra8 := Ra7.drew.other (b' := w.heap.size + 1 + 1 + 1 + 1 + 1 + 1 + 1) (k := a * 4 + b') (by omega) (.int .u64 (bits .or .u64 (lim (qk F M (m + 1)) (a * 4 + b')) (2 ^ c')))
            clear S7 Ra7 QS8'
            have hw := HW.out
            obtain ⟨pc0, pc1⟩ := HP.out
            go_region
            go_wp2_with fail
            go_roundw
            case rel => exact ⟨m, by omega, by go_num, S8, Ra8⟩
            case measure => simp [intOf]
          · rw [if_neg cM] at RKm
            have QK : Hid _ := QK0.out (by omega)
            have RK : Hid _ := RKm
            have hsg : sg T1 M = -1 := by unfold sg; rw [if_pos (by omega)]
            rw [hsg] at CM
            clear SB0 CM0 eT1 QK0 QS8 hA RKm cM hT1 e255 rb b0 b1 hsg
            go_wp2_with fail
            refine (CM _).mono ?_
            rintro e w4 ⟨rfl, hb4⟩
            have S5 := S4.below hb4
            have Ra5 := Ra4.below hb4 (by have := S4.2.1; omega)
            clear r6 r2 hb4 S4 Ra4 CM
            go_wp2_with fail
            go_roundw
            case rel => exact ⟨m, by omega, by go_num, S5.keep QK.out, by rw [RK.out]; exact Ra5⟩
            case measure => simp [intOf]
end Go.Proofs.Ytpigofooblmdhaa
