/- Texts joined: N13, M3, N17, N18, M4, M5, N6, T1, M8, T2, T3, T4, T5, M7, T6, T7, T8, A1. -/
import Derived.Deep.MidRow
import Derived.Deep.Cut
import Derived.Deep.RegionLaw
import Derived.Laws.BytesString
import Derived.Laws.MakeOwn
import Derived.Laws.MathBits
import Derived.Deep.WholeRow
import Derived.Laws.IdiomStrings
import Derived.Test.YtpigofooblmdhaaJ3
set_option linter.all false
namespace Go.Proofs.Ytpigofooblmdhaa
open Go.RowKit
attribute [local go_sem] idx24_0 idx24_1 idx24_2 idx24_3
theorem div64_any (hi lo y : Int) (h0 : 0 ≤ hi) (hhi : hi < y) (l0 : 0 ≤ lo) (l1 : lo < 18446744073709551616) (h : 9223372036854775808 ≤ y) (h1 : y < 18446744073709551616) (w : World) :
    Calls Try.prog 93 #[.int .u64 hi, .int .u64 lo, .int .u64 y] w fun e w' => e = .returned (.tuple #[.int .u64 ((hi * 18446744073709551616 + lo) / y), .int .u64 ((hi * 18446744073709551616 + lo) % y)]) ∧ Below w.heap.size w w' := by
  by_cases c : hi = 0
  · subst c
    have := div64_zero lo y l0 l1 h h1 w
    simpa using this
  · have my := and_low32 y (by omega) h1
    have ml := and_low32 lo l0 l1
    have hy : 0 < y := by omega
    have eU := Int.emod_nonneg (hi * 4294967296 + lo / 4294967296) (by omega : y ≠ 0)
    have eU' := Int.emod_lt_of_pos (hi * 4294967296 + lo / 4294967296) hy
    have D := two_digits (hi := hi) (lo := lo) (u1 := lo / 4294967296) (u0 := lo % 4294967296) hy (by omega) rfl
    have core := div64_core hi lo y _ _ _ _ _ _ _ _ w (by omega) hhi l0 l1 h h1 rfl my rfl ml (show Hid _ from (by omega : y = y / 4294967296 * 4294967296 + y % 4294967296)) (by omega) (by omega) (by omega) (by omega) (by omega) (by omega) (by omega) (by omega)
      (show Hid _ from rfl) (show Hid _ from rfl) (dig_nn h0 (by omega) hy) (dig_lt hhi (by omega) hy) (dig_nn eU (by omega) hy) (dig_lt eU' (by omega) hy) eU eU'
      (left_wrap h0 (by omega) hy h1 rfl) (left_wrap eU (by omega) hy h1 rfl)
    refine core.mono fun e w' hh => ?_
    obtain ⟨he, hw⟩ := hh
    subst hw
    rw [D.1, D.2]
    exact ⟨he, Below.refl _ _⟩
def gs (R D : Int) : Int := if lim D 3 ≤ lim R 3 then 18446744073709551615 else (lim R 3 * 18446744073709551616 + lim R 2) / lim D 3
set_option maxHeartbeats 2000000 in
theorem guess_any (R D : Int) (h : 9223372036854775808 ≤ lim D 3) (w : World) :
    Calls Try.prog 108 #[nv R, nv D] w fun e w' => e = .returned (.int .u64 (gs R D)) ∧ Below w.heap.size w w' := by
  unfold gs
  by_cases c : lim D 3 ≤ lim R 3
  · rw [if_pos c]
    go_enter Try.func108, Try.ntmps108
    go_wp2
    go_returns
    exact ⟨rfl, by go_grown⟩
  · rw [if_neg c]
    have K := fun W => div64_any (lim R 3) (lim R 2) (lim D 3) (lim_nn _ _) (by omega) (lim_nn _ _) (lim_lt _ _) h (lim_lt _ _) W
    go_enter Try.func108, Try.ntmps108
    go_wp2_with (go_at_call 93; refine (K _).mono ?_; rintro e w' ⟨rfl, hb⟩)
    go_returns
    exact ⟨rfl, (((Below.refl _ _).alloc (Nat.le_refl _) _).alloc (by simp) _).trans (hb.mono (by simp; omega))⟩
theorem subStep (x y q c : Int) (hx : 0 ≤ x) (hx1 : x < 18446744073709551616) (hy : 0 ≤ y) (hy1 : y < 18446744073709551616) (hq : 0 ≤ q) (hq1 : q < 18446744073709551616) (hc : 0 ≤ c) (hc1 : c < 18446744073709551616) :
    ∃ r d : Int, 0 ≤ r ∧ r < 18446744073709551616 ∧ 0 ≤ d ∧ d < 18446744073709551616 ∧ x - q * y - c = r - 18446744073709551616 * d ∧
      ∀ (b b' : Nat) (w : World), w.cell? ⟨b, 0, none⟩ = some (.int .u64 q) → w.cell? ⟨b', 0, none⟩ = some (.int .u64 c) → w.frozen? ⟨b', 0, none⟩ = false →
        Calls Try.prog 117 #[.int .u64 x, .int .u64 y, .pointer (some ⟨b, 0, none⟩), .pointer (some ⟨b', 0, none⟩)] w fun e w' => e = .returned (.int .u64 r) ∧ w' = w.setCell ⟨b', 0, none⟩ (.int .u64 d) := by
  have hp := mul_hi_bd q y hq hq1 hy hy1
  obtain ⟨h, l, hh, hh', hl, hl', e, M⟩ := ex49 q y hq hq1 hy hy1
  obtain ⟨l1, c1, hl1, hl1', hc1, hc1', e1, A1⟩ := ex45 l c 0 hl hl' hc (by omega) (by omega) (by omega)
  obtain ⟨r, b0, hr, hr', hb, hb', e2, A2⟩ := ex47 x l1 0 hx hx1 hl1 hl1' (by omega) (by omega)
  have hno : h + c1 + b0 < 18446744073709551616 := by omega
  refine ⟨r, h + c1 + b0, by omega, by omega, by omega, by omega, by omega, fun b b' w hcell hcell' hfz => ?_⟩
  clear e e1 e2 hp hx hx1 hy hy1 hq hq1
  have b1 : h + c1 ≤ 18446744073709551615 := by omega
  have b2 : h + c1 + b0 ≤ 18446744073709551615 := by omega
  go_enter Try.func117, Try.ntmps117
  go_wp2_with (go_at_call 86; refine (M _).mono ?_; rintro e w' ⟨rfl, rfl⟩)
  go_returns
  exact ⟨rfl, rfl⟩
end Go.Proofs.Ytpigofooblmdhaa
namespace Go.Proofs.Ytpigofooblmdhaa
open Go.RowKit
theorem Arr.mk4 {w : World} {b : Nat} {f : Nat → Value} (h0 : w.cell? ⟨b, 0, none⟩ = some (f 0)) (h1 : w.cell? ⟨b, 1, none⟩ = some (f 1)) (h2 : w.cell? ⟨b, 2, none⟩ = some (f 2)) (h3 : w.cell? ⟨b, 3, none⟩ = some (f 3))
    (z0 : w.frozen? ⟨b, 0, none⟩ = false) (z1 : w.frozen? ⟨b, 1, none⟩ = false) (z2 : w.frozen? ⟨b, 2, none⟩ = false) (z3 : w.frozen? ⟨b, 3, none⟩ = false) : Arr w b 4 f := by
  intro j hj
  have h : j = 0 ∨ j = 1 ∨ j = 2 ∨ j = 3 := by omega
  rcases h with h | h | h | h <;> subst h
  · exact ⟨h0, z0⟩
  · exact ⟨h1, z1⟩
  · exact ⟨h2, z2⟩
  · exact ⟨h3, z3⟩
theorem lim_mod (N : Int) (k : Nat) (hk : k < 4) : lim (N % top256) k = lim N k := by
  have h : k = 0 ∨ k = 1 ∨ k = 2 ∨ k = 3 := by omega
  unfold top256
  rcases h with h | h | h | h <;> subst h
  · rw [lim0, lim0]; omega
  · rw [lim1, lim1]; omega
  · rw [lim2, lim2]; omega
  · rw [lim3, lim3]; omega
theorem nv_mod (N : Int) : nv (N % top256) = nv N := by
  simp only [nv, lim_mod N 0 (by omega), lim_mod N 1 (by omega), lim_mod N 2 (by omega), lim_mod N 3 (by omega)]
theorem gs_bd (R D : Int) (h : 9223372036854775808 ≤ lim D 3) : 0 ≤ gs R D ∧ gs R D < 18446744073709551616 := by
  have r3 := lim_nn R 3
  have r2 := lim_nn R 2
  have r2' := lim_lt R 2
  unfold gs
  split
  · omega
  · refine ⟨Int.ediv_nonneg (by omega) (by omega), Int.ediv_lt_of_lt_mul (by omega) ?_⟩
    omega
theorem gs_ge (R x D : Int) (hR : 0 ≤ R) (hRD : R < D) (hD' : D < top256) (hx : 0 ≤ x) (hx' : x < 18446744073709551616) (h : 9223372036854775808 ≤ lim D 3) : R * 18446744073709551616 + x - gs R D * D < D := by
  have r3 := lim_nn R 3
  have r2 := lim_nn R 2
  have vR := V4_lim R hR (Int.lt_trans hRD hD')
  have vD := V4_lim D (by omega) hD'
  have a0 := lim_nn R 0
  have a0' := lim_lt R 0
  have a1 := lim_nn R 1
  have a1' := lim_lt R 1
  have d0 := lim_nn D 0
  have d1 := lim_nn D 1
  have d2 := lim_nn D 2
  unfold gs
  split
  · omega
  · have d3 : 0 < lim D 3 := by omega
    have e := Int.mul_ediv_add_emod (lim R 3 * 18446744073709551616 + lim R 2) (lim D 3)
    have m := Int.emod_lt_of_pos (lim R 3 * 18446744073709551616 + lim R 2) d3
    have q0 : 0 ≤ (lim R 3 * 18446744073709551616 + lim R 2) / lim D 3 := Int.ediv_nonneg (by omega) (by omega)
    generalize (lim R 3 * 18446744073709551616 + lim R 2) / lim D 3 = q at *
    generalize (lim R 3 * 18446744073709551616 + lim R 2) % lim D 3 = mm at *
    have k1 : (q + 1) * (6277101735386680763835789423207666416102355444464034512896 * lim D 3) ≤ (q + 1) * D := by
      refine Int.mul_le_mul_of_nonneg_left ?_ (by omega)
      unfold V4 at vD; omega
    have k2 : (q + 1) * (6277101735386680763835789423207666416102355444464034512896 * lim D 3) = 6277101735386680763835789423207666416102355444464034512896 * (lim D 3 * q + lim D 3) := by grind
    have k3 : (q + 1) * D = q * D + D := by grind
    unfold V4 at vR
    omega
end Go.Proofs.Ytpigofooblmdhaa
namespace Go.Proofs.Ytpigofooblmdhaa
open Go.RowKit
def byt (N : Int) (i : Nat) : Int := N / 2 ^ (8 * (31 - i)) % 256
theorem byt_bd (N : Int) (i : Nat) : 0 ≤ byt N i ∧ byt N i < 256 := by unfold byt; omega
theorem byt_win (N : Int) (i : Nat) (hi : i < 32) : IntKind.u8.wrap (win N (8 * (31 - (i : Int)))) = byt N i := by
  rw [IntKind.wrap_u8]
  unfold win byt
  rw [if_pos (by omega)]
  have e : (8 * (31 - (i : Int))).toNat = 8 * (31 - i) := by omega
  rw [e]; omega
def bytsL (N : Int) : List Value := (List.range 32).map fun j => .int .u8 (byt N j)
theorem bytsL_len (N : Int) : (bytsL N).length = 32 := by simp [bytsL]
theorem bytsL_at (N : Int) (j : Nat) (hj : j < 32) : (bytsL N)[j]? = some (.int .u8 (byt N j)) := by simp [bytsL, hj]
theorem Arr.range {w : World} {b n : Nat} {f : Nat → Value} (h : Arr w b n f) (cs : List Value) (hl : cs.length = n) (hc : ∀ j, j < n → cs[j]? = some (f j)) : w.rangeAt b 0 cs := fun j v hv => by
  have hj : j < n := by rw [← hl]; exact (List.getElem?_eq_some_iff.1 hv).1
  rw [Nat.zero_add, (h j hj).1, ← hc j hj]; exact hv
theorem Arr.there {w : World} {b n : Nat} {f : Nat → Value} (h : Arr w b n f) : w.there b 0 n := fun j hj => by
  rw [Nat.zero_add]
  exact ⟨by rw [(h j hj).1]; rfl, (h j hj).2⟩
theorem Try.info57 : (Try.prog.info? 57).map (·.size) = some 32 := by kernel_rfl
theorem bytsL_one (N : Int) : ∀ v ∈ bytsL N, v.oneCell' = true := by
  intro v hv
  simp only [bytsL, List.mem_map] at hv
  obtain ⟨j, _, rfl⟩ := hv
  rfl
theorem zeros32 (j : Nat) (hj : j < 32) : (List.replicate 32 (Value.int .u8 0)).toArray[j]? = some (.int .u8 0) := by
  rw [List.getElem?_toArray, List.getElem?_replicate, if_pos hj]
theorem below_setCells {B : Nat} {a w : World} (h : Below B a w) {b : Nat} (hb : B ≤ b) : ∀ (vs : List Value) (o : Nat), Below B a (w.setCells b o vs) := by
  intro vs
  induction vs generalizing w with
  | nil => intro o; exact h
  | cons v r ih => intro o; rw [World.setCells]; exact ih (h.setCell hb _) (o + 1)
theorem results_cell1 {P : Program} {fn : Func} {p : Tmp} {ty : TypeId} {a : Addr} {v : Value} {w : World} (h : fn.results = #[.cell p ty]) (tmps : Array Value) (hp : tmps.getD p undef = .pointer (some a)) (hl : (loadVar ty a).run P w = .ok v w) :
    (results fn tmps).run P w = .ok v w := by
  have hp' : tmps[p]?.getD undef = .pointer (some a) := by simpa using hp
  simp only [results, h]
  simp [Sem.run_bind, hp', asAddr, hl]
set_option maxHeartbeats 2000000 in
theorem bigBytes_core (N : Int) (hN : 0 ≤ N) (hN' : N < top256) (L : List Value) (hlen : L.length = 32) (hat : ∀ j, j < 32 → L[j]? = some (.int .u8 (byt N j))) (hone : ∀ v ∈ L, v.oneCell' = true) (w : World) :
    Calls Try.prog 55 #[nv N] w fun e w' => e = .returned (.agg L.toArray) ∧ Below w.heap.size w w' := by
  go_enter Try.func55, Try.ntmps55
  go_wp2_with fail
  go_loopw [5] (fun i wr => ∃ k : Nat, k ≤ 32 ∧ i = .int .i64 k ∧ Below w.heap.size w wr ∧ w.heap.size + 1 + 1 < wr.heap.size ∧
      Arr wr w.heap.size 4 (fun j => .int .u64 (lim N j)) ∧ Arr wr (w.heap.size + 1) 32 (fun _ => .int .u8 0) ∧
      Arr wr (w.heap.size + 1 + 1) 32 (fun j => .int .u8 (if j < k then byt N j else 0)))
    (fun i _ => 32 - (intOf i).toNat)
  case atStart =>
    refine ⟨0, by omega, rfl, by go_grown, by go_size, ?_, ?_, ?_⟩
    · refine ((Arr.new _ _ _ _ rfl _ 4 ?_).alloc (by go_size) _).alloc (by go_size) _
      intro j hj
      have : j = 0 ∨ j = 1 ∨ j = 2 ∨ j = 3 := by omega
      rcases this with rfl | rfl | rfl | rfl <;> rfl
    · exact (Arr.new _ _ _ _ (by simp) _ 32 zeros32).alloc (by go_size) _
    · refine Arr.new _ _ _ _ (by simp) _ 32 ?_
      intro j hj
      rw [if_neg (by omega)]
      exact zeros32 j hj
  case round =>
    obtain ⟨k, hk, rfl, hB, hz, A0, A1, A2⟩ := hrel
    have c0 := A0.c
    by_cases hlt : k < 32
    · have k0 : (0 : Int) ≤ (k : Int) := by omega
      have k8 : (k : Int) < 32 := by omega
      have W := fun u => window_any N (8 * (31 - (k : Int))) hN hN' (by omega) (by omega) u
      have bw := byt_win N k hlt
      clear hat hone hlen
      go_wp2_with (go_at_call 81; refine (W _).mono ?_; rintro e w1 ⟨rfl, hb⟩; have A0' := A0.below hb (by omega); have A1' := A1.below hb (by omega); have A2' := A2.below hb hz; have z2 := A2'.z k hlt; have c2 := A2'.c k hlt)
      refine ⟨⟨k + 1, by omega, by go_num, (hB.trans (hb.mono hB.size)).setCell (by show _ ≤ w.heap.size + 1 + 1; omega) _, by rw [size_set]; have := hb.size; omega, A0'.other (by omega) _, A1'.other (by omega) _, ?_⟩, by simp [intOf]; omega⟩
      refine (A2'.set k hlt _).congr ?_
      intro j hj
      by_cases e : j = k
      · subst e; simp
      · simp only [if_neg e]
        by_cases e2 : j < k
        · rw [if_pos e2, if_pos (by omega)]
        · rw [if_neg e2, if_neg (by omega)]
    · have k8 : k = 32 := by omega
      subst k8
      have R2 : wr.rangeAt (w.heap.size + 1 + 1) 0 L := A2.range _ hlen (by intro j hj; rw [if_pos hj]; exact hat j hj)
      have T1 := A1.there
      have sz : L.toArray.size = 32 := by rw [List.size_toArray]; exact hlen
      have h58 : (Try.prog.info? 57).map (·.size) = some L.length := by rw [hlen]; exact Try.info57
      have h58' : (Try.prog.info? 57).map (·.size) = some L.toArray.size := by rw [sz]; exact Try.info57
      have T1' : wr.there (w.heap.size + 1) 0 L.toArray.size := by rw [sz]; exact T1
      have one := all_oneCell_toArray hone
      have R1 : (wr.setCells (w.heap.size + 1) 0 L).rangeAt (w.heap.size + 1) 0 L := World.rangeAt_setCells_same wr _ 0 _ (by rw [hlen]; exact T1)
      have lv := run_loadVar_mid (P := Try.prog) (wr.setCells (w.heap.size + 1) 0 L) (w.heap.size + 1) 0 57 L _ R1 Try.underlying57 rfl h58
      have LV : Hid _ := lv
      have HR2 : Hid _ := R2
      have H58 : Hid _ := h58
      have H58' : Hid _ := h58'
      have HT1 : Hid _ := T1'
      have HO : Hid _ := one
      clear A0 A1 A2 c0 hk T1 R1 lv sz R2 h58 h58' T1' one hat hone hlen
      go_upto_region 7 with (fail)
      refine wp_region_list ?_
      refine wpList_load_mid (by rfl) 57 (.tmp 3) (by rfl) _ _ (by rfl) L _ HR2.out Try.underlying57 rfl H58.out ?_
      refine wpList_store_mid (by rfl) 57 (.tmp 2) (.tmp 17) (by rfl) _ _ _ (by rfl) (by rfl) HT1.out H58'.out HO.out ?_
      refine wpList_nil ?_
      have lv := LV.out
      clear HR2 H58 H58' HT1 HO LV
      go_wp2_with fail
      refine bodyPost_ret (v := .agg L.toArray) (results_cell1 Try.results55 _ (by rfl) lv) rfl ⟨rfl, ?_⟩
      exact below_setCells hB (by omega) _ _
theorem bigBytes_any (N : Int) (hN : 0 ≤ N) (hN' : N < top256) (w : World) :
    Calls Try.prog 55 #[nv N] w fun e w' => e = .returned (.agg (bytsL N).toArray) ∧ Below w.heap.size w w' :=
  bigBytes_core N hN hN' (bytsL N) (bytsL_len N) (bytsL_at N) (bytsL_one N) w
end Go.Proofs.Ytpigofooblmdhaa
set_option maxRecDepth 100000
namespace Go.Proofs.Ytpigofooblmdhaa
open Go.RowKit
def hexc (d : Int) : Int := if d < 10 then 48 + d else 87 + d
def tx (N : Int) (j : Nat) : Int := if j % 2 = 0 then hexc (byt N (j / 2) / 16) else hexc (byt N (j / 2) % 16)
def txL (N : Int) : List Int := (List.range 64).map (tx N)
def txS (N : Int) : ByteArray := (txL N).foldl (fun r n => r.push (UInt8.ofNat n.toNat)) ByteArray.empty
theorem hex_idx (d : Int) (h0 : 0 ≤ d) (h1 : d < 16) (W : World) : (Instr.index 9 (.string ⟨#[48, 49, 50, 51, 52, 53, 54, 55, 56, 57, 97, 98, 99, 100, 101, 102]⟩) (.int .u8 d)).run Try.prog W = .ok (.int .u8 (hexc d)) W := by
  have h : d = 0 ∨ d = 1 ∨ d = 2 ∨ d = 3 ∨ d = 4 ∨ d = 5 ∨ d = 6 ∨ d = 7 ∨ d = 8 ∨ d = 9 ∨ d = 10 ∨ d = 11 ∨ d = 12 ∨ d = 13 ∨ d = 14 ∨ d = 15 := by omega
  rcases h with h | h | h | h | h | h | h | h | h | h | h | h | h | h | h | h <;> (rw [h]; rfl)
theorem idx58 (L : List Value) (k : Nat) (v : Int) (hk : k < 32) (hv : L[k]? = some (.int .u8 v)) (W : World) : (Instr.index 57 (.agg L.toArray) (.int .i64 (k : Int))).run Try.prog W = .ok (.int .u8 v) W := by
  have h0 : (0 : Int) ≤ (k : Int) ∧ (k : Int) < ((32 : Nat) : Int) := by omega
  have hs : (Go.sizeOf 5).run Try.prog W = .ok 1 W := by kernel_rfl
  have hv' : L.toArray[k]? = some (.int .u8 v) := by simpa using hv
  simp only [Instr.index, asIntOf, Sem.run_bind, Sem.run_pure, Result.andThen_ok, run_underlying Try.underlying57]
  rw [Sem.run_ite, if_pos h0]
  simp only [Sem.run_bind, hs, Result.andThen_ok, Int.toNat_natCast, Nat.mul_one]
  have ha : (isAgg 5).run Try.prog W = .ok false W := by kernel_rfl
  simp [part, Sem.run_bind, ha, hv']
theorem Try.info5 : (Try.prog.info? 5).map (fun i => (i.zero, i.size, i.bytes)) = some (some (.int .u8 0), 1, 1) := by kernel_rfl
theorem tx_even (N : Int) (k : Nat) : tx N (2 * k) = hexc (byt N k / 16) := by
  unfold tx; rw [if_pos (by omega)]; congr 3; omega
theorem tx_odd (N : Int) (k : Nat) : tx N (2 * k + 1) = hexc (byt N k % 16) := by
  unfold tx; rw [if_neg (by omega)]; congr 3; omega
theorem made64 : ∃ C : Array Value, C.size = 64 ∧ (∀ j, j < 64 → C[j]? = some (.int .u8 0)) ∧ ∀ W : World, (Instr.makeSlice 43 (.int .i64 0) (.int .i64 64)).run Try.prog W = .ok (.slice (some ⟨W.heap.size, 0, none⟩) 0 64) (W.alloc (.cells C 5)) := by
  obtain ⟨i0, hi, hz0, hz1, hz2⟩ := info_parts Try.info5
  refine ⟨madeCells (Value.int .u8 0).cells (64 * 1), by rw [size_madeCells], ?_, fun W => ?_⟩
  · intro j hj
    simp only [madeCells, Value.cells]
    rw [Array.getElem?_map, Array.getElem?_range, if_pos (by omega)]
    simp [Nat.mod_one]
  · have := run_make (P := Try.prog) W 43 5 i0 (.int .u8 0) Try.underlying43 hi hz0 .i64 .i64 0 64 (by omega) (by omega) (by rw [hz2]; omega) (by omega)
    rw [hz1] at this
    exact this
theorem news2 (wr : World) (x y : Value) : ∀ (j : Nat) (u : Value), ([x, y] : List Value)[j]? = some u → ((wr.alloc (.cells #[x, y] 5)).drew).cell? ((⟨wr.heap.size, 0, none⟩ : Addr).add j) = some u := by
  intro j u h
  rw [Addr.add_mid]
  have hj : j < 2 := (List.getElem?_eq_some_iff.1 h).1
  have hc : j = 0 ∨ j = 1 := by omega
  rcases hc with hc | hc <;> subst hc <;> simp at h <;> subst h <;> simp [go_sem]
theorem set2 {w : World} {b n : Nat} {f : Nat → Value} (h : Arr w b n f) (o : Nat) (ho : o + 1 < n) (x y : Value) : Arr (w.setCells b o [x, y]) b n (fun j => if j = o + 1 then y else if j = o then x else f j) :=
  ((h.set o (by omega) x).set (o + 1) ho y)
theorem conv_text (W : World) (g : Nat) (ns : List Int) (h64 : ns.length = 64) (hc : ∀ j, j < 64 → W.cell? ⟨g, j, none⟩ = some (.int .u8 (ns.getD j 0))) :
    (convert 43 9 (.slice (some ⟨g, 0, none⟩) 64 64)).run Try.prog W = .ok (.string (ns.foldl (fun r n => r.push (UInt8.ofNat n.toNat)) ByteArray.empty)) W := by
  rw [run_convert_bytes_string W 43 9 5 _ 64 64 Try.underlying43 Try.underlying5 Try.underlying9]
  refine run_bytesToString W ⟨g, 0, none⟩ 64 64 ns ?_
  have := run_loadCells_list (P := Try.prog) W ⟨g, 0, none⟩ (ns.map (Value.int .u8)) (by
    intro j v hv
    rw [Addr.add_mid, Nat.zero_add]
    rw [List.getElem?_map] at hv
    obtain ⟨n, hn, rfl⟩ := Option.map_eq_some_iff.1 hv
    have hj : j < 64 := by rw [← h64]; exact (List.getElem?_eq_some_iff.1 hn).1
    rw [hc j hj, List.getD, hn]; rfl)
  rw [List.length_map, h64] at this
  exact this
theorem size_sets (b : Nat) : ∀ (vs : List Value) (o : Nat) (w : World), (w.setCells b o vs).heap.size = w.heap.size
  | [], _, _ => rfl
  | v :: r, o, w => by rw [World.setCells, size_sets b r (o + 1), size_set]
theorem text_rel {N : Int} {w wr : World} {k : Nat} (ca cb : Int) (ob : Obj) (hB : Below w.heap.size w wr) (hz : w.heap.size + 1 < wr.heap.size) (A : Arr wr (w.heap.size + 1) 64 (fun j => .int .u8 (if j < 2 * k then tx N j else 0)))
    (hlt : k < 32) (HA : tx N (2 * k) = ca) (HB : tx N (2 * k + 1) = cb) :
    Below w.heap.size w ((wr.alloc ob).drew.setCells (w.heap.size + 1) (2 * k) [.int .u8 ca, .int .u8 cb]) ∧ w.heap.size + 1 < ((wr.alloc ob).drew.setCells (w.heap.size + 1) (2 * k) [.int .u8 ca, .int .u8 cb]).heap.size ∧
      Arr ((wr.alloc ob).drew.setCells (w.heap.size + 1) (2 * k) [.int .u8 ca, .int .u8 cb]) (w.heap.size + 1) 64 (fun j => .int .u8 (if j < 2 * (k + 1) then tx N j else 0)) := by
  refine ⟨below_setCells ((hB.alloc hB.size _).drew) (by omega) _ _, by rw [size_sets]; go_size, ?_⟩
  refine (set2 ((A.alloc (by omega) _).drew) (2 * k) (by omega) _ _).congr ?_
  intro j hj
  by_cases e1 : j = 2 * k + 1
  · subst e1; rw [if_pos rfl, if_pos (by omega), HB]
  · rw [if_neg e1]
    by_cases e2 : j = 2 * k
    · subst e2; rw [if_pos rfl, if_pos (by omega), HA]
    · rw [if_neg e2]
      by_cases e3 : j < 2 * k
      · rw [if_pos e3, if_pos (by omega)]
      · rw [if_neg e3, if_neg (by omega)]
set_option maxHeartbeats 400000 in
theorem text_core (N : Int) (L : List Value) (C : Array Value) (hat : Hid (∀ j, j < 32 → L[j]? = some (.int .u8 (byt N j)))) (hC : Hid (∀ j, j < 64 → C[j]? = some (.int .u8 0)))
    (mk : ∀ W : World, (Instr.makeSlice 43 (.int .i64 0) (.int .i64 64)).run Try.prog W = .ok (.slice (some ⟨W.heap.size, 0, none⟩) 0 64) (W.alloc (.cells C 5)))
    (BB : ∀ W, Calls Try.prog 55 #[nv N] W fun e w' => e = .returned (.agg L.toArray) ∧ Below W.heap.size W w') (w : World) :
    Calls Try.prog 14 #[nv N] w fun e w' => e = .returned (.string (txS N)) ∧ Below w.heap.size w w' := by
  go_enter Try.func14, Try.ntmps14
  go_wp2_with fail
  refine (BB _).mono ?_
  rintro e w1 ⟨rfl, hb1⟩
  clear mk BB
  have A1 : Arr w1 (w.heap.size + 1) 64 (fun _ => .int .u8 0) := (Arr.new _ _ _ _ (by simp) _ 64 hC.out).below hb1 (by go_size)
  have z1 : w.heap.size + 1 < w1.heap.size := by have := hb1.size; simp at this; omega
  have hB1 : Below w.heap.size w w1 := Below.trans (by go_grown) (hb1.mono (by go_size))
  clear hb1
  go_wp2_with fail
  go_loopw [3, 9] (fun s i wr => ∃ k : Nat, k ≤ 32 ∧ i = .int .i64 k ∧ s = .slice (some ⟨w.heap.size + 1, 0, none⟩) (2 * k) 64 ∧ Below w.heap.size w wr ∧ w.heap.size + 1 < wr.heap.size ∧
      Arr wr (w.heap.size + 1) 64 (fun j => .int .u8 (if j < 2 * k then tx N j else 0)))
    (fun _ i _ => 32 - (intOf i).toNat)
  case atStart => exact ⟨0, by omega, rfl, rfl, hB1, z1, A1.congr (by intro j hj; rw [if_neg (by omega)])⟩
  case round =>
    clear A1 z1 hB1
    obtain ⟨k, hk, rfl, rfl, hB, hz, A⟩ := hrel
    by_cases hlt : k < 32
    · have k0 : (0 : Int) ≤ (k : Int) := by omega
      have k8 : (k : Int) < 32 := by omega
      have I := fun W => idx58 L k (byt N k) hlt (hat.out k hlt) W
      have bb := byt_bd N k
      have te := tx_even N k
      have to := tx_odd N k
      have d1 := fun W => hex_idx (byt N k / 16) (by omega) (by omega) W
      have d2 := fun W => hex_idx (byt N k % 16) (by omega) (by omega) W
      have a15 := u8_and15 (byt N k) bb.1 bb.2
      rw [← te] at d1
      rw [← to] at d2
      generalize byt N k = v at *
      generalize ha : tx N (2 * k) = ca at *
      generalize hb : tx N (2 * k + 1) = cb at *
      have HA : Hid (tx N (2 * k) = ca) := ha
      have HB : Hid (tx N (2 * k + 1) = cb) := hb
      clear ha hb te to
      obtain ⟨b0, b1⟩ := bb
      obtain ⟨i0, hi, hz0, hz1, hz2⟩ := info_parts Try.info5
      have ON : Hid (∀ u ∈ ([.int .u8 ca, .int .u8 cb] : List Value), u.oneCell' = true) := by
        intro u hu; simp at hu; rcases hu with rfl | rfl <;> rfl
      have SP : Hid (∀ j, j < ([.int .u8 ca, .int .u8 cb] : List Value).length → (((wr.alloc (.cells #[.int .u8 ca, .int .u8 cb] 5)).drew).cell? ⟨w.heap.size + 1, 0 + 2 * k * 1 + j, none⟩).isSome = true ∧ ((wr.alloc (.cells #[.int .u8 ca, .int .u8 cb] 5)).drew).frozen? ⟨w.heap.size + 1, 0 + 2 * k * 1 + j, none⟩ = false) := by
        intro j hj
        have hj2 : j < 2 := hj
        have := ((A.alloc hz (.cells #[.int .u8 ca, .int .u8 cb] 5)).drew) (0 + 2 * k * 1 + j) (by omega)
        exact ⟨by rw [this.1]; rfl, this.2⟩
      have HI : Hid _ := hi
      go_wp2_with fail
      go_region_law (refine step_append_room rfl (.tmp 12) (.tmp 19) 43 rfl 5 i0 1 Try.underlying43 hi hz1 (w.heap.size + 1) 0 (2 * k) 64 (by simp [Act.eval, Act.put]) ⟨wr.heap.size, 0, none⟩ 2 2 [.int .u8 ca, .int .u8 cb] (by simp [Act.eval, Act.put]) rfl (news2 _ _ _) ON.out (by omega) SP.out ?_)
      all_goals
        go_wp2_with fail
        go_roundw
        case rel => exact ⟨k + 1, by omega, by go_num, by rw [show 2 * (k + 1) = 2 * k + 2 by omega], text_rel ca cb _ hB hz A hlt HA.out HB.out⟩
        case measure => simp [intOf]; omega
    · have k8 : k = 32 := by omega
      subst k8
      have CV := conv_text wr (w.heap.size + 1) (txL N) (by simp [txL]) (by intro j hj; rw [A.c j hj, if_pos (by omega)]; simp [txL, List.getD, hj])
      clear A hat hC
      have CV' : (convert 43 9 (.slice (some ⟨w.heap.size + 1, 0, none⟩) (2 * 32) 64)).run Try.prog wr = .ok (.string (txS N)) wr := CV
      clear CV
      generalize hT : txS N = T at CV'
      have HT : Hid (txS N = T) := hT
      clear hT
      go_wp2_with fail
      go_ret
      refine ⟨?_, hB⟩
      rw [HT.out]
      rfl
theorem text_any (N : Int) (hN : 0 ≤ N) (hN' : N < top256) (w : World) :
    Calls Try.prog 14 #[nv N] w fun e w' => e = .returned (.string (txS N)) ∧ Below w.heap.size w w' := by
  obtain ⟨C, _, hC, mk⟩ := made64
  exact text_core N (bytsL N) C (bytsL_at N) hC mk (fun W => bigBytes_any N hN hN' W) w
end Go.Proofs.Ytpigofooblmdhaa
namespace Go.Proofs.Ytpigofooblmdhaa
open Go.RowKit
theorem beta_pow (k : Nat) : (18446744073709551616 : Int) ^ k = 2 ^ (64 * k) := by
  have e : (18446744073709551616 : Int) = 2 ^ 64 := rfl
  rw [e, ← Int.pow_mul]
theorem lim_add4 (N : Int) (k : Nat) : lim N (k + 4) = lim (N / top256) k := by
  unfold lim
  have e : (18446744073709551616 : Int) ^ (k + 4) = top256 * 18446744073709551616 ^ k := by
    rw [Int.pow_add, Int.mul_comm]; rfl
  rw [e, Int.ediv_ediv_of_nonneg (by decide)]
theorem lim_zero_of_lt {N : Int} {k t : Nat} (h0 : 0 ≤ N) (h : N < 2 ^ t) (ht : t ≤ 64 * k) : lim N k = 0 := by
  unfold lim
  rw [beta_pow]
  have : (2 : Int) ^ t ≤ 2 ^ (64 * k) := by
    have := Nat.pow_le_pow_right (n := 2) (by omega) ht
    exact_mod_cast this
  rw [Int.ediv_eq_zero_of_lt h0 (by omega)]; rfl
theorem or_lims (X h : Int) (s k : Nat) (hX : 0 ≤ X) (hX' : X < 2 ^ s) (hh : 0 ≤ h) : bits .or .u64 (lim X k) (lim (h * 2 ^ s) k) = lim (X + h * 2 ^ s) k := by
  have hs : (0 : Int) < 2 ^ s := Int.pow_pos (by omega)
  have hk : (0 : Int) < 2 ^ (64 * k) := Int.pow_pos (by omega)
  have or0 : ∀ y : Int, 0 ≤ y → y < 18446744073709551616 → bits .or .u64 0 y = y := fun y h0 h1 => by
    have hc : bits .or .u64 0 y = bits .or .u64 y 0 := by simp only [bits, BitVec.or_comm]
    rw [hc]; exact or_zero y h0 h1
  by_cases c1 : s ≤ 64 * k
  · rw [lim_zero_of_lt hX hX' c1, or0 _ (lim_nn _ _) (lim_lt _ _)]
    unfold lim
    rw [beta_pow]
    have e : 64 * k = s + (64 * k - s) := by omega
    rw [e, div_pow_add, div_pow_add, Int.mul_ediv_cancel _ (Int.ne_of_gt hs), Int.add_mul_ediv_right _ _ (Int.ne_of_gt hs), Int.ediv_eq_zero_of_lt hX hX', Int.zero_add]
  · have e : (2 : Int) ^ s = 2 ^ (s - 64 * k) * 2 ^ (64 * k) := by rw [← Int.pow_add]; congr 1; omega
    have e2 : h * 2 ^ s / 2 ^ (64 * k) = h * 2 ^ (s - 64 * k) := by rw [e, ← Int.mul_assoc, Int.mul_ediv_cancel _ (Int.ne_of_gt hk)]
    have e3 : (X + h * 2 ^ s) / 2 ^ (64 * k) = X / 2 ^ (64 * k) + h * 2 ^ (s - 64 * k) := by
      rw [e, ← Int.mul_assoc, Int.add_mul_ediv_right _ _ (Int.ne_of_gt hk)]
    have hXk : 0 ≤ X / 2 ^ (64 * k) := Int.ediv_nonneg hX (Int.le_of_lt hk)
    have hXk' : X / 2 ^ (64 * k) < 2 ^ (s - 64 * k) := Int.ediv_lt_of_lt_mul hk (by rw [← e]; exact hX')
    unfold lim
    rw [beta_pow, e2, e3]
    generalize X / 2 ^ (64 * k) = x at *
    by_cases c2 : 64 ≤ s - 64 * k
    · have e4 : (2 : Int) ^ (s - 64 * k) = 2 ^ (s - 64 * k - 64) * 18446744073709551616 := by
        have e5 : s - 64 * k = (s - 64 * k - 64) + 64 := by omega
        rw [e5, Int.pow_add]
        have e6 : s - 64 * k - 64 + 64 - 64 = s - 64 * k - 64 := by omega
        rw [e6]; rfl
      rw [e4, ← Int.mul_assoc, Int.mul_emod_left, Int.add_mul_emod_self_right]
      exact or_zero _ (by omega) (by omega)
    · have T0 : (0 : Int) < 2 ^ (s - 64 * k) := Int.pow_pos (by omega)
      have S0 : (0 : Int) < 2 ^ (64 - (s - 64 * k)) := Int.pow_pos (by omega)
      have TS := pow_split (s - 64 * k) (by omega)
      have T64 : (2 : Int) ^ (s - 64 * k) ≤ 2 ^ 64 := by
        have := Nat.pow_le_pow_right (n := 2) (by omega) (show s - 64 * k ≤ 64 by omega)
        exact_mod_cast this
      have m1 : h * 2 ^ (s - 64 * k) % 18446744073709551616 = h % 2 ^ (64 - (s - 64 * k)) * 2 ^ (s - 64 * k) := by
        have := mul_mod_right' h (2 ^ (64 - (s - 64 * k))) (2 ^ (s - 64 * k)) S0 T0
        rw [Int.mul_comm (2 ^ (64 - (s - 64 * k))), TS] at this
        exact this
      have h0 := Int.emod_nonneg h (Int.ne_of_gt S0)
      have h1 := Int.emod_lt_of_pos h S0
      have x64 : x % 18446744073709551616 = x := Int.emod_eq_of_lt hXk (by have : (2 : Int) ^ 64 = 18446744073709551616 := rfl; omega)
      have p0 : 0 ≤ h % 2 ^ (64 - (s - 64 * k)) * 2 ^ (s - 64 * k) := Int.mul_nonneg h0 (Int.le_of_lt T0)
      have p1 : (h % 2 ^ (64 - (s - 64 * k)) + 1) * 2 ^ (s - 64 * k) ≤ 18446744073709551616 := by
        rw [← TS, Int.mul_comm (2 ^ (s - 64 * k))]
        exact Int.mul_le_mul_of_nonneg_right (by omega) (Int.le_of_lt T0)
      have p2 : (h % 2 ^ (64 - (s - 64 * k)) + 1) * 2 ^ (s - 64 * k) = h % 2 ^ (64 - (s - 64 * k)) * 2 ^ (s - 64 * k) + 2 ^ (s - 64 * k) := by grind
      have sum : (x + h * 2 ^ (s - 64 * k)) % 18446744073709551616 = x + h % 2 ^ (64 - (s - 64 * k)) * 2 ^ (s - 64 * k) := by
        rw [Int.add_emod, m1, x64]
        exact Int.emod_eq_of_lt (by omega) (by omega)
      rw [sum, m1, x64]
      have hc : bits .or .u64 x (h % 2 ^ (64 - (s - 64 * k)) * 2 ^ (s - 64 * k)) = bits .or .u64 (h % 2 ^ (64 - (s - 64 * k)) * 2 ^ (s - 64 * k)) x := by simp only [bits, BitVec.or_comm]
      have e64 : (2 : Int) ^ 64 = 18446744073709551616 := rfl
      rw [hc, bits_join .u64 64 (by decide) wraps_u64_64 (s - 64 * k) _ _ p0 (Int.mul_emod_left _ _) (by omega) hXk hXk' (by omega)]
      omega
def rem (F D : Int) (j : Nat) : Int := F / 18446744073709551616 ^ j % D
theorem digit_eq (F D : Int) (j : Nat) (hD : 0 < D) :
    (rem F D (j + 1) * 18446744073709551616 + lim F j) % D = rem F D j ∧ (rem F D (j + 1) * 18446744073709551616 + lim F j) / D = lim (F / D) j := by
  have hp : (0 : Int) < 18446744073709551616 ^ j := Int.pow_pos (by omega)
  have e1 : F / 18446744073709551616 ^ (j + 1) = F / 18446744073709551616 ^ j / 18446744073709551616 := by
    rw [Int.pow_succ, Int.ediv_ediv_of_nonneg (Int.le_of_lt hp)]
  have e2 : F / D / 18446744073709551616 ^ j = F / 18446744073709551616 ^ j / D := by
    rw [Int.ediv_ediv_of_nonneg (Int.le_of_lt hD), Int.mul_comm, ← Int.ediv_ediv_of_nonneg (Int.le_of_lt hp)]
  unfold rem
  have el : lim F j = F / 18446744073709551616 ^ j % 18446744073709551616 := rfl
  have eq : lim (F / D) j = F / D / 18446744073709551616 ^ j % 18446744073709551616 := rfl
  rw [el, eq, e1, e2]
  generalize F / 18446744073709551616 ^ j = G at *
  have g1 := Int.mul_ediv_add_emod G 18446744073709551616
  have f0 : 0 ≤ G % 18446744073709551616 := by omega
  have f1 : G % 18446744073709551616 < 18446744073709551616 := by omega
  generalize G / 18446744073709551616 = Gh at *
  generalize G % 18446744073709551616 = f at *
  have g2 := Int.mul_ediv_add_emod Gh D
  have r0 := Int.emod_nonneg Gh (Int.ne_of_gt hD)
  have r1 := Int.emod_lt_of_pos Gh hD
  generalize Gh / D = q at *
  generalize Gh % D = r at *
  have e : G = (r * 18446744073709551616 + f) + D * (q * 18446744073709551616) := by
    have : D * (q * 18446744073709551616) = D * q * 18446744073709551616 := by grind
    omega
  have d0 : 0 ≤ (r * 18446744073709551616 + f) / D := Int.ediv_nonneg (by omega) (Int.le_of_lt hD)
  have d1 : (r * 18446744073709551616 + f) / D < 18446744073709551616 := Int.ediv_lt_of_lt_mul hD (by omega)
  rw [e, Int.add_mul_emod_self_left, Int.add_mul_ediv_left _ _ (Int.ne_of_gt hD)]
  exact ⟨rfl, by omega⟩
end Go.Proofs.Ytpigofooblmdhaa
namespace Go.Proofs.Ytpigofooblmdhaa
open Go.RowKit
theorem idxM (N : Int) (k : Nat) (hk : k < 4) (w : World) : (Instr.index 24 (nv N) (.int .i64 (k : Int))).run Try.prog w = .ok (.int .u64 (lim N k)) w := by
  have h : k = 0 ∨ k = 1 ∨ k = 2 ∨ k = 3 := by omega
  rcases h with h | h | h | h <;> subst h
  · exact idx24_0 _ _ _ _ w
  · exact idx24_1 _ _ _ _ w
  · exact idx24_2 _ _ _ _ w
  · exact idx24_3 _ _ _ _ w
def S8 (f : Nat → Int) : Int := f 0 + 18446744073709551616 * f 1 + 340282366920938463463374607431768211456 * f 2 + 6277101735386680763835789423207666416102355444464034512896 * f 3 + 115792089237316195423570985008687907853269984665640564039457584007913129639936 * f 4 + 2135987035920910082395021706169552114602704522356652769947041607822219725780640550022962086936576 * f 5 + 39402006196394479212279040100143613805079739270465446667948293404245721771497210611414266254884915640806627990306816 * f 6 + 726838724295606890549323807888004534353641360687318060281490199180639288113397923326191050713763565560762521606266177933534601628614656 * f 7
def upd (f : Nat → Int) (k : Nat) (v : Int) : Nat → Int := fun j => if j = k then v else f j
theorem S8_upd (f : Nat → Int) (k : Nat) (v : Int) (hk : k < 8) : S8 (upd f k v) = S8 f + (v - f k) * 18446744073709551616 ^ k := by
  have h : k = 0 ∨ k = 1 ∨ k = 2 ∨ k = 3 ∨ k = 4 ∨ k = 5 ∨ k = 6 ∨ k = 7 := by omega
  rcases h with h | h | h | h | h | h | h | h <;> subst h <;> simp [S8, upd] <;> omega
theorem lims8 (f : Nat → Int) (h : ∀ j, j < 8 → 0 ≤ f j ∧ f j < 18446744073709551616) (j : Nat) (hj : j < 8) : lim (S8 f) j = f j := by
  have h0 := h 0 (by omega)
  have h1 := h 1 (by omega)
  have h2 := h 2 (by omega)
  have h3 := h 3 (by omega)
  have h4 := h 4 (by omega)
  have h5 := h 5 (by omega)
  have h6 := h 6 (by omega)
  have h7 := h 7 (by omega)
  clear h
  have e : S8 f = V4 (f 0) (f 1) (f 2) (f 3) + 115792089237316195423570985008687907853269984665640564039457584007913129639936 * V4 (f 4) (f 5) (f 6) (f 7) := by unfold S8 V4; omega
  obtain ⟨k0, k1, k2, k3⟩ := lims_of h0.1 h0.2 h1.1 h1.2 h2.1 h2.2 h3.1 h3.2 e
  have b := V4_bd h0.1 h0.2 h1.1 h1.2 h2.1 h2.2 h3.1 h3.2
  have e2 : S8 f / top256 = V4 (f 4) (f 5) (f 6) (f 7) + 115792089237316195423570985008687907853269984665640564039457584007913129639936 * 0 := by rw [e]; unfold top256; omega
  obtain ⟨k4, k5, k6, k7⟩ := lims_of h4.1 h4.2 h5.1 h5.2 h6.1 h6.2 h7.1 h7.2 e2
  have l4 := lim_add4 (S8 f) 0
  have l5 := lim_add4 (S8 f) 1
  have l6 := lim_add4 (S8 f) 2
  have l7 := lim_add4 (S8 f) 3
  have hc : j = 0 ∨ j = 1 ∨ j = 2 ∨ j = 3 ∨ j = 4 ∨ j = 5 ∨ j = 6 ∨ j = 7 := by omega
  rcases hc with hc | hc | hc | hc | hc | hc | hc | hc <;> subst hc
  · exact k0
  · exact k1
  · exact k2
  · exact k3
  · exact l4.trans k4
  · exact l5.trans k5
  · exact l6.trans k6
  · exact l7.trans k7
def PI (A B : Int) (i j : Nat) (f : Nat → Int) (c : Int) : Prop :=
  (∀ t, t < 8 → 0 ≤ f t ∧ f t < 18446744073709551616) ∧ (∀ t, i + 4 ≤ t → t < 8 → f t = 0) ∧ 0 ≤ c ∧ c < 18446744073709551616 ∧
  S8 f + c * 18446744073709551616 ^ (i + j) = A % 18446744073709551616 ^ i * B + lim A i * (B % 18446744073709551616 ^ j) * 18446744073709551616 ^ i
theorem PI.inner {A B : Int} {i j : Nat} {f : Nat → Int} {c lo hi : Int} (h : PI A B i j f c) (hi4 : i < 4) (hj : j < 4) (l0 : 0 ≤ lo) (l1 : lo < 18446744073709551616) (g0 : 0 ≤ hi) (g1 : hi < 18446744073709551616)
    (e : lim A i * lim B j + f (i + j) + c = lo + 18446744073709551616 * hi) : PI A B i (j + 1) (upd f (i + j) lo) hi := by
  obtain ⟨a, b, c0, c1, d⟩ := h
  refine ⟨fun t ht => ?_, fun t ht ht8 => ?_, g0, g1, ?_⟩
  · unfold upd; split
    · omega
    · exact a t ht
  · unfold upd; rw [if_neg (by omega)]; exact b t ht ht8
  · have hp : (0 : Int) < 18446744073709551616 ^ j := Int.pow_pos (by omega)
    have em : B % 18446744073709551616 ^ (j + 1) = B % 18446744073709551616 ^ j + 18446744073709551616 ^ j * lim B j := by
      rw [Int.pow_succ, mod_split B _ hp]; rfl
    have ep : (18446744073709551616 : Int) ^ (i + (j + 1)) = 18446744073709551616 ^ (i + j) * 18446744073709551616 := by
      rw [← Nat.add_assoc, Int.pow_succ]
    have eq : (18446744073709551616 : Int) ^ (i + j) = 18446744073709551616 ^ i * 18446744073709551616 ^ j := Int.pow_add _ _ _
    rw [S8_upd f (i + j) lo (by omega), em, ep]
    rw [eq] at d ⊢
    generalize (18446744073709551616 : Int) ^ i = P at *
    generalize (18446744073709551616 : Int) ^ j = Q at *
    generalize S8 f = s at *
    generalize A % P = am at *
    generalize B % Q = bm at *
    generalize lim A i = x at *
    generalize lim B j = y at *
    generalize f (i + j) = ft at *
    have h1 : (lo - ft) * (P * Q) + hi * (P * Q * 18446744073709551616) = (lo + 18446744073709551616 * hi - ft) * (P * Q) := by grind
    have h2 : lo + 18446744073709551616 * hi - ft = x * y + c := by omega
    rw [h2] at h1
    grind
theorem PI.outer {A B : Int} {i : Nat} {f : Nat → Int} {c : Int} (h : PI A B i 4 f c) (hi4 : i < 4) (hB : 0 ≤ B) (hB' : B < top256) : PI A B (i + 1) 0 (upd f (i + 4) c) 0 := by
  obtain ⟨a, b, c0, c1, d⟩ := h
  refine ⟨fun t ht => ?_, fun t ht ht8 => ?_, by omega, by omega, ?_⟩
  · unfold upd; split
    · omega
    · exact a t ht
  · unfold upd; rw [if_neg (by omega)]; exact b t (by omega) ht8
  · have hp : (0 : Int) < 18446744073709551616 ^ i := Int.pow_pos (by omega)
    have em : A % 18446744073709551616 ^ (i + 1) = A % 18446744073709551616 ^ i + 18446744073709551616 ^ i * lim A i := by
      rw [Int.pow_succ, mod_split A _ hp]; rfl
    have e4 : (18446744073709551616 : Int) ^ 4 = top256 := by decide
    rw [e4, Int.emod_eq_of_lt hB hB'] at d
    rw [S8_upd f (i + 4) c (by omega), em, b (i + 4) (by omega) (by omega), Int.pow_zero, Int.emod_one, Int.zero_mul, Int.mul_zero, Int.zero_mul]
    generalize (18446744073709551616 : Int) ^ (i + 4) = P4 at *
    generalize (18446744073709551616 : Int) ^ i = P at *
    generalize A % P = am at *
    generalize lim A i = x at *
    grind
theorem PI.start (A B : Int) : PI A B 0 0 (fun _ => 0) 0 := by
  refine ⟨fun t ht => by simp, fun t _ _ => rfl, by omega, by omega, ?_⟩
  simp [S8, Int.emod_one]
theorem PI.done {A B : Int} {f : Nat → Int} (h : PI A B 4 0 f 0) (hA : 0 ≤ A) (hA' : A < top256) (j : Nat) (hj : j < 8) : f j = lim (A * B) j := by
  obtain ⟨a, b, c0, c1, d⟩ := h
  have e4 : (18446744073709551616 : Int) ^ 4 = top256 := by decide
  rw [e4, Int.emod_eq_of_lt hA hA', Int.pow_zero, Int.emod_one, Int.zero_mul, Int.mul_zero, Int.zero_mul, Int.add_zero, Int.add_zero] at d
  rw [← d]
  exact (lims8 f a j hj).symm
end Go.Proofs.Ytpigofooblmdhaa
namespace Go.Proofs.Ytpigofooblmdhaa
open Go.RowKit
theorem Arr.mk1 {w : World} {b : Nat} {f : Nat → Value} (h0 : w.cell? ⟨b, 0, none⟩ = some (f 0)) (z0 : w.frozen? ⟨b, 0, none⟩ = false) : Arr w b 1 f := by
  intro j hj
  have h : j = 0 := by omega
  subst h
  exact ⟨h0, z0⟩
theorem Arr.mk8' {w : World} {b : Nat} {f : Nat → Value} (h0 : w.cell? ⟨b, 0, none⟩ = some (f 0)) (h1 : w.cell? ⟨b, 1, none⟩ = some (f 1)) (h2 : w.cell? ⟨b, 2, none⟩ = some (f 2)) (h3 : w.cell? ⟨b, 3, none⟩ = some (f 3))
    (h4 : w.cell? ⟨b, 4, none⟩ = some (f 4)) (h5 : w.cell? ⟨b, 5, none⟩ = some (f 5)) (h6 : w.cell? ⟨b, 6, none⟩ = some (f 6)) (h7 : w.cell? ⟨b, 7, none⟩ = some (f 7)) (z : ∀ j, j < 8 → w.frozen? ⟨b, j, none⟩ = false) : Arr w b 8 f := by
  intro j hj
  refine ⟨?_, z j hj⟩
  have h : j = 0 ∨ j = 1 ∨ j = 2 ∨ j = 3 ∨ j = 4 ∨ j = 5 ∨ j = 6 ∨ j = 7 := by omega
  rcases h with h | h | h | h | h | h | h | h <;> subst h <;> assumption
def MR (w wr : World) (Bv : Int) (f : Nat → Int) : Prop :=
  Below w.heap.size w wr ∧ w.heap.size + 1 + 1 + 1 + 1 + 1 < wr.heap.size ∧ Arr wr (w.heap.size + 1) 4 (fun j => .int .u64 (lim Bv j)) ∧ Arr wr (w.heap.size + 1 + 1) 4 (fun _ => .int .u64 0) ∧ Arr wr (w.heap.size + 1 + 1 + 1) 4 (fun _ => .int .u64 0) ∧ Arr wr (w.heap.size + 1 + 1 + 1 + 1) 8 (fun j => .int .u64 (f j))
theorem MR.carry {w wr : World} {Bv : Int} {f : Nat → Int} (h : MR w wr Bv f) (v : Value) : MR w (wr.setCell ⟨w.heap.size + 1 + 1 + 1 + 1 + 1, 0, none⟩ v) Bv f := by
  obtain ⟨a, b, c1, c2, c3, c4⟩ := h
  exact ⟨a.setCell (by show _ ≤ w.heap.size + 1 + 1 + 1 + 1 + 1; omega) _, by rw [size_set]; exact b, c1.other (by omega) _, c2.other (by omega) _, c3.other (by omega) _, c4.other (by omega) _⟩
theorem MR.put {w wr : World} {Bv : Int} {f : Nat → Int} (h : MR w wr Bv f) (k : Nat) (hk : k < 8) (v : Int) : MR w (wr.setCell ⟨w.heap.size + 1 + 1 + 1 + 1, k, none⟩ (.int .u64 v)) Bv (upd f k v) := by
  obtain ⟨a, b, c1, c2, c3, c4⟩ := h
  refine ⟨a.setCell (by show _ ≤ w.heap.size + 1 + 1 + 1 + 1; omega) _, by rw [size_set]; exact b, c1.other (by omega) _, c2.other (by omega) _, c3.other (by omega) _, (c4.set k hk _).congr ?_⟩
  intro j hj
  unfold upd
  by_cases e : j = k
  · rw [if_pos e, if_pos e]
  · rw [if_neg e, if_neg e]
set_option maxHeartbeats 8000000 in
theorem mul_any (A Bv : Int) (hA : 0 ≤ A) (hA' : A < top256) (hB : 0 ≤ Bv) (hB' : Bv < top256) (w : World) :
    Calls Try.prog 57 #[nv A, nv Bv] w fun e w' => e = .returned (.tuple #[nv (A * Bv), nv (A * Bv / top256)]) ∧ Below w.heap.size w w' := by
  go_enter Try.func57, Try.ntmps57
  go_wp2_with fail
  go_loopw [15] (fun i wr => ∃ (k : Nat) (f : Nat → Int) (c : Int), k ≤ 4 ∧ i = .int .i64 k ∧ MR w wr Bv f ∧ Arr wr (w.heap.size + 1 + 1 + 1 + 1 + 1) 1 (fun _ => .int .u64 c) ∧ Hid (PI A Bv k 0 f 0))
    (fun i _ => 4 - (intOf i).toNat)
  case atStart =>
    exact ⟨0, fun _ => 0, 0, by omega, rfl, ⟨by go_grown, by go_size, Arr.mk4 (by simp [go_sem]) (by simp [go_sem]) (by simp [go_sem]) (by simp [go_sem]) (by simp [go_sem]) (by simp [go_sem]) (by simp [go_sem]) (by simp [go_sem]) , Arr.mk4 (by simp [go_sem]) (by simp [go_sem]) (by simp [go_sem]) (by simp [go_sem]) (by simp [go_sem]) (by simp [go_sem]) (by simp [go_sem]) (by simp [go_sem]) , Arr.mk4 (by simp [go_sem]) (by simp [go_sem]) (by simp [go_sem]) (by simp [go_sem]) (by simp [go_sem]) (by simp [go_sem]) (by simp [go_sem]) (by simp [go_sem]) , Arr.mk8' (by simp [go_sem]) (by simp [go_sem]) (by simp [go_sem]) (by simp [go_sem]) (by simp [go_sem]) (by simp [go_sem]) (by simp [go_sem]) (by simp [go_sem]) (by simp [go_sem])⟩, Arr.mk1 (by simp [go_sem]) (by simp [go_sem]), PI.start A Bv⟩
  case round =>
    obtain ⟨k, f, c, hk, rfl, HM, C5, HP⟩ := hrel
    by_cases hlt : k < 4
    · have k0 : (0 : Int) ≤ (k : Int) := by omega
      have k4 : (k : Int) < 4 := by omega
      have I : ∀ W, (Instr.index 24 (.agg #[.int .u64 (lim A 0), .int .u64 (lim A 1), .int .u64 (lim A 2), .int .u64 (lim A 3)]) (.int .i64 (k : Int))).run Try.prog W = .ok (.int .u64 (lim A k)) W := fun W => idxM A k hlt W
      have c5 := C5.c 0 (by omega)
      have z5 := C5.z 0 (by omega)
      have c1 := (HM.carry (.int .u64 0)).2.2.1.c
      go_wp2_with fail
      have HM0 := HM.carry (.int .u64 0)
      have C50 : Arr (wr.setCell ⟨w.heap.size + 1 + 1 + 1 + 1 + 1, 0, none⟩ (.int .u64 0)) (w.heap.size + 1 + 1 + 1 + 1 + 1) 1 (fun _ => .int .u64 0) := (C5.set 0 (by omega) (.int .u64 0)).congr (by intro j hj; rw [if_pos (by omega)])
      clear c5 z5 c1 C5 HM I
      go_loopw [20] (fun i wr => ∃ (j : Nat) (f : Nat → Int) (c : Int), j ≤ 4 ∧ i = .int .i64 j ∧ MR w wr Bv f ∧ Arr wr (w.heap.size + 1 + 1 + 1 + 1 + 1) 1 (fun _ => .int .u64 c) ∧ Hid (PI A Bv k j f c))
        (fun i _ => 4 - (intOf i).toNat)
      case atStart => exact ⟨0, f, 0, by omega, rfl, HM0, C50, HP⟩
      case round =>
        clear HM0 C50 HP
        obtain ⟨j, f, c, hj, rfl, HM, C5, HP⟩ := hrel
        have c5 := C5.c 0 (by omega)
        have z5 := C5.z 0 (by omega)
        by_cases hjt : j < 4
        · have j0 : (0 : Int) ≤ (j : Int) := by omega
          have j4 : (j : Int) < 4 := by omega
          have I : ∀ W, (Instr.index 24 (.agg #[.int .u64 (lim Bv 0), .int .u64 (lim Bv 1), .int .u64 (lim Bv 2), .int .u64 (lim Bv 3)]) (.int .i64 (j : Int))).run Try.prog W = .ok (.int .u64 (lim Bv j)) W := fun W => idxM Bv j hjt W
          have fb := HP.out.1 (k + j) (by omega)
          obtain ⟨lo, hi, l0, l1, g0, g1, e, K⟩ := mulStep (lim A k) (lim Bv j) (f (k + j)) c (lim_nn _ _) (lim_lt _ _) (lim_nn _ _) (lim_lt _ _) fb.1 fb.2 HP.out.2.2.1 HP.out.2.2.2.1
          have HP' : Hid (PI A Bv k (j + 1) (upd f (k + j) lo) hi) := HP.out.inner hlt hjt l0 l1 g0 g1 e
          have KK := K (w.heap.size + 1 + 1 + 1 + 1 + 1) wr c5 z5
          have rd := HM.2.2.2.2.2.c (k + j) (by omega)
          have HM1 := (HM.carry (.int .u64 hi)).put (k + j) (by omega) lo
          have zo := (HM.carry (.int .u64 hi)).2.2.2.2.2.z (k + j) (by omega)
          have co := (HM.carry (.int .u64 hi)).2.2.2.2.2.c (k + j) (by omega)
          have C51 : Arr ((wr.setCell ⟨w.heap.size + 1 + 1 + 1 + 1 + 1, 0, none⟩ (.int .u64 hi)).setCell ⟨w.heap.size + 1 + 1 + 1 + 1, k + j, none⟩ (.int .u64 lo)) (w.heap.size + 1 + 1 + 1 + 1 + 1) 1 (fun _ => .int .u64 hi) := ((C5.set 0 (by omega) (.int .u64 hi)).congr (by intro j hj; rw [if_pos (by omega)])).other (by omega) _
          have tn : ((k : Int) + (j : Int)).toNat = k + j := by omega
          clear e K HP fb C5
          have HM2 : Hid (MR w ((wr.setCell ⟨w.heap.size + 1 + 1 + 1 + 1 + 1, 0, none⟩ (.int .u64 hi)).setCell ⟨w.heap.size + 1 + 1 + 1 + 1, k + j, none⟩ (.int .u64 lo)) Bv (upd f (k + j) lo)) := HM1
          clear HM1 HM
          go_wp2_with (go_at_call 85; refine KK.mono ?_; rintro e w' ⟨rfl, rfl⟩)
          go_roundw
          case rel => exact ⟨j + 1, upd f (k + j) lo, hi, by omega, by go_num, HM2, C51, HP'⟩
          case measure => simp [intOf]; omega
        · have j4 : j = 4 := by omega
          subst j4
          have HP' : Hid (PI A Bv (k + 1) 0 (upd f (k + 4) c) 0) := HP.out.outer hlt hB hB'
          have HM1 := HM.put (k + 4) (by omega) c
          have zo := HM.2.2.2.2.2.z (k + 4) (by omega)
          have co := HM.2.2.2.2.2.c (k + 4) (by omega)
          have C51 := C5.other (b' := w.heap.size + 1 + 1 + 1 + 1) (k := k + 4) (by omega) (.int .u64 c)
          have tn : ((k : Int) + 4).toNat = k + 4 := by omega
          clear HP C5 HM
          go_wp2_with fail
          go_roundw
          case rel => exact ⟨k + 1, upd f (k + 4) c, c, by omega, by go_num, HM1, C51, HP'⟩
          case measure => simp [intOf]; omega
    · have k4 : k = 4 := by omega
      subst k4
      have D := HP.out.done hA hA'
      obtain ⟨hBl, hz, C1, C2, C3, C4⟩ := HM
      have c4 := (C4.congr (g := fun j => .int .u64 (lim (A * Bv) j)) (by intro j hj; rw [D j hj])).c
      go_wp2_with fail
      refine (halves_any _ _ _ _ _ _ _ _ _).mono ?_
      rintro e wh ⟨rfl, hbh⟩
      have E2 := C2.below hbh (by omega)
      have E3 := C3.below hbh (by omega)
      have c2 := E2.c
      have z2 := E2.z
      have c3 := E3.c
      have z3 := E3.z
      have l4 : lim (A * Bv) 4 = lim (A * Bv / top256) 0 := lim_add4 _ 0
      have l5 : lim (A * Bv) 5 = lim (A * Bv / top256) 1 := lim_add4 _ 1
      have l6 : lim (A * Bv) 6 = lim (A * Bv / top256) 2 := lim_add4 _ 2
      have l7 : lim (A * Bv) 7 = lim (A * Bv / top256) 3 := lim_add4 _ 3
      rw [l4, l5, l6, l7]
      clear c4 C4 C1 C2 C3 D HP l4 l5 l6 l7
      go_wp2_with fail
      refine bodyPost_ret (v := .tuple #[nv (A * Bv), nv (A * Bv / top256)]) (by simp [results, Try.results57, go_sem, c2, c3]) rfl ⟨rfl, ?_⟩
      have hBc := hBl.trans (hbh.mono hBl.size)
      go_grown
end Go.Proofs.Ytpigofooblmdhaa
namespace Go.Proofs.Ytpigofooblmdhaa
open Go.RowKit
def lenE (s n : Int) : Int := if s < n then 11 else if n < s then 12 else 0
set_option maxHeartbeats 1000000 in
theorem lengthError_any (s : ByteArray) (n : Int) (hs : s.size ≤ maxLen) (w : World) :
    Calls Try.prog 48 #[.string s, .int .i64 n] w fun e w' => e = .returned (.int .i64 (lenE s.size n)) ∧ w' = w := by
  unfold maxLen at hs
  unfold lenE
  by_cases h : (s.size : Int) < n
  · rw [if_pos h]
    go_enter Try.func48, Try.ntmps48
    go_wp2
    go_ret
    exact ⟨rfl, rfl⟩
  · rw [if_neg h]
    by_cases h2 : n < (s.size : Int)
    · rw [if_pos h2]
      go_enter Try.func48, Try.ntmps48
      go_wp2
      go_ret
      exact ⟨rfl, rfl⟩
    · rw [if_neg h2]
      go_enter Try.func48, Try.ntmps48
      go_wp2
      go_ret
      exact ⟨rfl, rfl⟩
def dgv (c : Int) : Int := if 48 ≤ c ∧ c ≤ 57 then c - 48 else if 97 ≤ c ∧ c ≤ 102 then c - 87 else 0
def dgo (c : Int) : Bool := decide (48 ≤ c ∧ c ≤ 57) || decide (97 ≤ c ∧ c ≤ 102)
set_option maxHeartbeats 1000000 in
theorem digitValue_any (c : Int) (h0 : 0 ≤ c) (h1 : c < 256) (w : World) :
    Calls Try.prog 49 #[.int .u8 c] w fun e w' => e = .returned (.tuple #[.int .u8 (dgv c), .bool (dgo c)]) ∧ w' = w := by
  by_cases a : 48 ≤ c ∧ c ≤ 57
  · have e1 : dgv c = c - 48 := by unfold dgv; rw [if_pos a]
    have e2 : dgo c = true := by unfold dgo; simp [a]
    rw [e1, e2]
    obtain ⟨a1, a2⟩ := a
    clear e1 e2
    go_enter Try.func49, Try.ntmps49
    go_wp2
    go_ret2
    exact ⟨rfl, rfl⟩
  · by_cases b : 97 ≤ c ∧ c ≤ 102
    · have e1 : dgv c = c - 87 := by unfold dgv; rw [if_neg a, if_pos b]
      have e2 : dgo c = true := by unfold dgo; simp [b]
      rw [e1, e2]
      obtain ⟨b1, b2⟩ := b
      have a1 : (48 : Int) ≤ c := by omega
      have a2 : ¬ c ≤ 57 := by omega
      clear e1 e2 a
      go_enter Try.func49, Try.ntmps49
      go_wp2
      go_ret2
      exact ⟨by simp; omega, rfl⟩
    · have e1 : dgv c = 0 := by unfold dgv; rw [if_neg a, if_neg b]
      have e2 : dgo c = false := by unfold dgo; rw [decide_eq_false a, decide_eq_false b]; rfl
      rw [e1, e2]
      clear e1 e2
      by_cases h48 : 48 ≤ c
      · have h57 : ¬ c ≤ 57 := by omega
        by_cases h97 : 97 ≤ c
        · have h102 : ¬ c ≤ 102 := by omega
          clear a b
          go_enter Try.func49, Try.ntmps49
          go_wp2
          go_ret2
          exact ⟨rfl, rfl⟩
        · clear a b
          go_enter Try.func49, Try.ntmps49
          go_wp2
          go_ret2
          exact ⟨rfl, rfl⟩
      · have h97 : ¬ 97 ≤ c := by omega
        clear a b
        go_enter Try.func49, Try.ntmps49
        go_wp2
        go_ret2
        exact ⟨rfl, rfl⟩
set_option maxHeartbeats 2000000 in
theorem push_any (b : Nat) (f : Nat → Value) (t : Nat) (ht : t < 4) (wd d x : Int) (hw0 : 0 ≤ wd) (hw1 : wd ≤ 8) (hd0 : 0 ≤ d) (hd1 : d < 256) (W : World) (hA : Arr W b 4 f) (hx : f (3 - t) = .int .u64 x) (x0 : 0 ≤ x) (x1 : x < 18446744073709551616) :
    Calls Try.prog 50 #[.pointer (some ⟨b, 0, none⟩), .int .i64 t, .int .u64 wd, .int .u8 d] W fun e w' => (∃ v, e = .returned v) ∧ w' = (W.setCell ⟨b, 3 - t, none⟩ (.int .u64 (bits .or .u64 (IntKind.u64.wrap (x * 2 ^ wd.toNat)) d))).drew := by
  have r := hA.c (3 - t) (by omega)
  rw [hx] at r
  have z := hA.z (3 - t) (by omega)
  obtain ⟨q, hq⟩ : ∃ q : Nat, (3 : Int) - (t : Int) = (q : Int) := ⟨3 - t, by omega⟩
  have e : 3 - t = q := by omega
  rw [e] at r z ⊢
  have q0 : (0 : Int) ≤ (q : Int) := by omega
  have q4 : (q : Int) < 4 := by omega
  have t0 : (0 : Int) ≤ (t : Int) := by omega
  have t4 : (t : Int) < 4 := by omega
  clear e hA hx
  go_enter Try.func50, Try.ntmps50
  go_wp2
  go_region
  go_wp2
  go_end0
  exact ⟨⟨_, rfl⟩, rfl⟩
end Go.Proofs.Ytpigofooblmdhaa
set_option maxRecDepth 100000
namespace Go.Proofs.Ytpigofooblmdhaa
open Go.RowKit
def pb (wd p : Nat) (f : Nat → Int) : Nat → Nat → Int
  | 0, _ => 0
  | k + 1, j => if j + k / p = 3 then pb wd p f k j * 2 ^ wd + f k else pb wd p f k j
def pn (wd : Nat) (f : Nat → Int) : Nat → Int
  | 0 => 0
  | k + 1 => pn wd f k * 2 ^ wd + f k
theorem pn_nn (wd : Nat) (f : Nat → Int) (hf : ∀ i, 0 ≤ f i) : ∀ k, 0 ≤ pn wd f k := by
  intro k
  induction k with
  | zero => exact Int.le_refl _
  | succ k ih => exact Int.add_nonneg (Int.mul_nonneg ih (Int.le_of_lt (Int.pow_pos (by omega)))) (hf k)
theorem pn_lt (wd : Nat) (f : Nat → Int) (hf : ∀ i, 0 ≤ f i ∧ f i < 2 ^ wd) : ∀ k, pn wd f k < 2 ^ (wd * k) := by
  intro k
  induction k with
  | zero => simp [pn]
  | succ k ih =>
    have h := hf k
    show pn wd f k * 2 ^ wd + f k < 2 ^ (wd * (k + 1))
    have e : (2 : Int) ^ (wd * (k + 1)) = 2 ^ (wd * k) * 2 ^ wd := by rw [Nat.mul_add, Nat.mul_one, Int.pow_add]
    have m : (pn wd f k + 1) * 2 ^ wd ≤ 2 ^ (wd * k) * 2 ^ wd := Int.mul_le_mul_of_nonneg_right (by omega) (Int.le_of_lt (Int.pow_pos (by omega)))
    rw [e]
    rw [Int.add_mul, Int.one_mul] at m
    omega
def sh (f : Nat → Int) (a : Nat) : Nat → Int := fun i => f (a + i)
theorem pn_add (wd : Nat) (f : Nat → Int) (a : Nat) : ∀ b, pn wd f (a + b) = pn wd f a * 2 ^ (wd * b) + pn wd (sh f a) b := by
  intro b
  induction b with
  | zero => simp [pn]
  | succ b ih =>
    show pn wd f (a + b) * 2 ^ wd + f (a + b) = pn wd f a * 2 ^ (wd * (b + 1)) + (pn wd (sh f a) b * 2 ^ wd + sh f a b)
    rw [ih, Nat.mul_add, Nat.mul_one, Int.pow_add]
    show _ + f (a + b) = _ + (_ + f (a + b))
    grind
theorem pb_is (wd p : Nat) (f : Nat → Int) (hp : 0 < p) : ∀ k j, j < 4 → k ≤ 4 * p →
    pb wd p f k j = if k ≤ (3 - j) * p then 0 else if k ≤ (4 - j) * p then pn wd (sh f ((3 - j) * p)) (k - (3 - j) * p) else pn wd (sh f ((3 - j) * p)) p := by
  intro k
  induction k with
  | zero => intro j hj hk; simp [pb]
  | succ k ih =>
    intro j hj hk
    have hi := ih j hj (by omega)
    show (if j + k / p = 3 then pb wd p f k j * 2 ^ wd + f k else pb wd p f k j) = _
    have e4 : (4 - j) * p = (3 - j) * p + p := by
      rw [show 4 - j = 3 - j + 1 by omega, Nat.add_mul, Nat.one_mul]
    by_cases c : j + k / p = 3
    · have d : k / p = 3 - j := by omega
      have lo : (3 - j) * p ≤ k := by rw [← d]; exact Nat.div_mul_le_self k p
      have hi2 : k < (3 - j) * p + p := by
        have := Nat.lt_div_mul_add (a := k) hp
        rw [d] at this
        exact this
      rw [if_pos c, hi, if_neg (show ¬ k + 1 ≤ (3 - j) * p by omega), if_pos (show k + 1 ≤ (4 - j) * p by omega)]
      by_cases c2 : k ≤ (3 - j) * p
      · have ek : k = (3 - j) * p := by omega
        rw [if_pos c2]
        have : k + 1 - (3 - j) * p = 0 + 1 := by omega
        rw [this]
        show 0 * 2 ^ wd + f k = pn wd (sh f ((3 - j) * p)) 0 * 2 ^ wd + sh f ((3 - j) * p) 0
        simp [pn, sh, ← ek]
      · rw [if_neg c2, if_pos (show k ≤ (4 - j) * p by omega)]
        have : k + 1 - (3 - j) * p = (k - (3 - j) * p) + 1 := by omega
        rw [this]
        show _ = pn wd (sh f ((3 - j) * p)) (k - (3 - j) * p) * 2 ^ wd + sh f ((3 - j) * p) (k - (3 - j) * p)
        have : sh f ((3 - j) * p) (k - (3 - j) * p) = f k := by unfold sh; congr 1; omega
        rw [this]
    · rw [if_neg c, hi]
      by_cases c2 : k + 1 ≤ (3 - j) * p
      · rw [if_pos c2, if_pos (by omega)]
      · rw [if_neg c2]
        have nlt : ¬ k < (3 - j) * p + p := by
          intro hlt
          have a1 : k / p = 3 - j := by
            refine Nat.div_eq_of_lt_le (by omega) ?_
            rw [Nat.add_mul, Nat.one_mul]; exact hlt
          omega
        rw [if_neg (show ¬ k ≤ (3 - j) * p by omega), if_neg (show ¬ k + 1 ≤ (4 - j) * p by omega)]
        by_cases c3 : k ≤ (4 - j) * p
        · have : k - (3 - j) * p = p := by omega
          rw [if_pos c3, this]
        · rw [if_neg c3]
end Go.Proofs.Ytpigofooblmdhaa
set_option maxRecDepth 100000
namespace Go.Proofs.Ytpigofooblmdhaa
open Go.RowKit
def bt (s : ByteArray) (i : Nat) : Int := (s.data[i]?.getD 0).toNat
theorem bt_bd (s : ByteArray) (i : Nat) : 0 ≤ bt s i ∧ bt s i < 256 := by unfold bt; have := (s.data[i]?.getD 0).toNat_lt; omega
theorem or_low (x d : Int) (wd : Nat) (h : wd = 4 ∨ wd = 8) (x0 : 0 ≤ x) (x1 : x * 2 ^ wd < 18446744073709551616) (d0 : 0 ≤ d) (d1 : d < 2 ^ wd) :
    bits .or .u64 (IntKind.u64.wrap (x * 2 ^ wd)) d = x * 2 ^ wd + d := by
  have e : bits .or .u64 d (IntKind.u64.wrap (x * 2 ^ (64 - (64 - wd)))) = d + x * 2 ^ wd := by
    have j := or_join (d * 2 ^ (64 - wd)) x (64 - wd) (by omega) (Int.mul_nonneg d0 (Int.le_of_lt (Int.pow_pos (by omega)))) (by
      rcases h with rfl | rfl
      · have : d < 16 := by simpa using d1
        simp; omega
      · have : d < 256 := by simpa using d1
        simp; omega) x0
    rw [Int.mul_ediv_cancel _ (Int.ne_of_gt (Int.pow_pos (by omega)))] at j
    rw [j]
    have hx : x % 2 ^ (64 - wd) = x := by
      refine Int.emod_eq_of_lt x0 ?_
      rcases h with rfl | rfl
      · simp at x1 ⊢; omega
      · simp at x1 ⊢; omega
    rw [hx, show 64 - (64 - wd) = wd by omega]
  rw [show 64 - (64 - wd) = wd by omega] at e
  have c : ∀ a b : Int, bits .or .u64 a b = bits .or .u64 b a := fun a b => by
    simp only [bits]; rw [BitVec.or_comm]
  rw [c, e, Int.add_comm]
theorem pb_bd (wd p : Nat) (f : Nat → Int) (hp : 0 < p) (hw : wd * p = 64) (hf : ∀ i, 0 ≤ f i ∧ f i < 2 ^ wd) (k j : Nat) (hj : j < 4) (hk : k ≤ 4 * p) : 0 ≤ pb wd p f k j ∧ pb wd p f k j < 18446744073709551616 := by
  have nn : ∀ g : Nat → Int, (∀ i, 0 ≤ g i ∧ g i < 2 ^ wd) → ∀ m, m ≤ p → 0 ≤ pn wd g m ∧ pn wd g m < 18446744073709551616 := fun g hg m hm => by
    refine ⟨pn_nn wd g (fun i => (hg i).1) m, ?_⟩
    have a := pn_lt wd g hg m
    have b : (2 : Nat) ^ (wd * m) ≤ 2 ^ 64 := by rw [← hw]; exact Nat.pow_le_pow_right (by omega) (Nat.mul_le_mul_left wd hm)
    have c : ((2 ^ (wd * m) : Nat) : Int) ≤ ((2 ^ 64 : Nat) : Int) := Int.ofNat_le.2 b
    have d : ((2 ^ (wd * m) : Nat) : Int) = 2 ^ (wd * m) := by push_cast; rfl
    have e : ((2 ^ 64 : Nat) : Int) = 18446744073709551616 := rfl
    omega
  have sf : ∀ a i, 0 ≤ sh f a i ∧ sh f a i < 2 ^ wd := fun a i => hf (a + i)
  rw [pb_is wd p f hp k j hj hk]
  have e4 : (4 - j) * p = (3 - j) * p + p := by rw [show 4 - j = 3 - j + 1 by omega, Nat.add_mul, Nat.one_mul]
  split
  · omega
  · split
    · exact nn _ (sf _) _ (by omega)
    · exact nn _ (sf _) _ (Nat.le_refl _)
theorem pb_room (wd p : Nat) (f : Nat → Int) (hp : 0 < p) (hw : wd * p = 64) (hf : ∀ i, 0 ≤ f i ∧ f i < 2 ^ wd) (k j : Nat) (hj : j < 4) (hk : k < 4 * p) (hjk : j + k / p = 3) : pb wd p f k j * 2 ^ wd < 18446744073709551616 := by
  have h := (pb_bd wd p f hp hw hf (k + 1) j hj (by omega)).2
  have u : pb wd p f (k + 1) j = pb wd p f k j * 2 ^ wd + f k := by show (if _ then _ else _) = _; rw [if_pos hjk]
  have := (hf k).1
  rw [u] at h
  omega
theorem idxS (s : ByteArray) (k : Nat) (hk : k < s.size) (W : World) : (Instr.index 9 (.string s) (.int .i64 (k : Int))).run Try.prog W = .ok (.int .u8 (bt s k)) W := by
  have h0 : (0 : Int) ≤ (k : Int) ∧ (k : Int) < (s.size : Int) := by omega
  have e : s.data[k]? = some (s.data[k]'hk) := Array.getElem?_eq_getElem hk
  unfold bt
  rw [e]
  simp [Instr.index, asIntOf, Sem.run_bind, Sem.run_pure, Result.andThen_ok, run_underlying Try.underlying9, h0, go_sem]
  rw [getElem?_pos s k hk]
  rfl
set_option maxRecDepth 100000 in
set_option maxHeartbeats 4000000 in
theorem fromBig_ok (s : ByteArray) (hs : s.size = 32) (w : World) :
    Calls Try.prog 10 #[.string s] w fun e w' => e = .returned (.tuple #[.agg #[.int .u64 (pb 8 8 (bt s) 32 0), .int .u64 (pb 8 8 (bt s) 32 1), .int .u64 (pb 8 8 (bt s) 32 2), .int .u64 (pb 8 8 (bt s) 32 3)], .int .i64 0]) ∧ Below w.heap.size w w' := by
  have LE := fun W => lengthError_any s 32 (by rw [hs]; decide) W
  have le0 : lenE (s.size : Int) 32 = 0 := by rw [hs]; decide
  rw [le0] at LE
  go_enter Try.func10, Try.ntmps10
  go_wp2_with (go_at_call 48; refine (LE _).mono ?_; rintro e w1 ⟨rfl, rfl⟩)
  go_loopw [13] (fun i wr => ∃ k : Nat, k ≤ 32 ∧ i = .int .i64 k ∧ Below w.heap.size w wr ∧ Arr wr w.heap.size 4 (fun _ => .int .u64 0) ∧ Arr wr (w.heap.size + 1) 4 (fun j => .int .u64 (pb 8 8 (bt s) k j)))
    (fun i _ => 32 - (intOf i).toNat)
  case atStart => exact ⟨0, by omega, rfl, by go_grown, Arr.mk4 (by simp [go_sem]) (by simp [go_sem]) (by simp [go_sem]) (by simp [go_sem]) (by simp [go_sem]) (by simp [go_sem]) (by simp [go_sem]) (by simp [go_sem]), Arr.mk4 (by simp [go_sem, pb]) (by simp [go_sem, pb]) (by simp [go_sem, pb]) (by simp [go_sem, pb]) (by simp [go_sem]) (by simp [go_sem]) (by simp [go_sem]) (by simp [go_sem])⟩
  case round =>
    clear LE le0
    obtain ⟨k, hk, rfl, hB, hZ, hA⟩ := hrel
    by_cases hlt : k < 32
    · have k0 : (0 : Int) ≤ (k : Int) := by omega
      have k32 : (k : Int) < 32 := by omega
      obtain ⟨q, hq⟩ : ∃ q : Nat, (k : Int) / 8 = (q : Int) := ⟨k / 8, by omega⟩
      have hf : ∀ i, 0 ≤ bt s i ∧ bt s i < 2 ^ 8 := fun i => by have := bt_bd s i; simpa using this
      have q4 : q < 4 := by omega
      have jq : 3 - q + k / 8 = 3 := by omega
      have bb := bt_bd s k
      have I := fun W => idxS s k (by omega) W
      have rm := pb_room 8 8 (bt s) (by omega) (by omega) hf k (3 - q) (by omega) (by omega) jq
      have xb := pb_bd 8 8 (bt s) (by omega) (by omega) hf k (3 - q) (by omega) (by omega)
      have PU := push_any (w.heap.size + 1) _ q q4 8 (bt s k) (pb 8 8 (bt s) k (3 - q)) (by omega) (by omega) bb.1 bb.2 wr hA rfl xb.1 xb.2
      have ol := or_low (pb 8 8 (bt s) k (3 - q)) (bt s k) 8 (.inr rfl) xb.1 rm bb.1 (hf k).2
      rw [show (8 : Int).toNat = 8 from rfl, ol, show (2 : Int) ^ 8 = 256 by decide] at PU
      have st : Arr ((wr.setCell ⟨w.heap.size + 1, 3 - q, none⟩ (.int .u64 (pb 8 8 (bt s) k (3 - q) * 256 + bt s k))).drew) (w.heap.size + 1) 4 (fun j => .int .u64 (pb 8 8 (bt s) (k + 1) j)) := by
        refine ((hA.set (3 - q) (by omega) _).congr ?_).drew
        intro j hj
        show _ = Value.int .u64 (if j + k / 8 = 3 then pb 8 8 (bt s) k j * 2 ^ 8 + bt s k else pb 8 8 (bt s) k j)
        by_cases h : j = 3 - q
        · subst h; rw [if_pos rfl, if_pos jq, show (2 : Int) ^ 8 = 256 by decide]
        · rw [if_neg h, if_neg (by omega)]
      have sz : Arr ((wr.setCell ⟨w.heap.size + 1, 3 - q, none⟩ (.int .u64 (pb 8 8 (bt s) k (3 - q) * 256 + bt s k))).drew) w.heap.size 4 (fun _ => .int .u64 0) := (hZ.other (by omega) _).drew
      have sB : Below w.heap.size w ((wr.setCell ⟨w.heap.size + 1, 3 - q, none⟩ (.int .u64 (pb 8 8 (bt s) k (3 - q) * 256 + bt s k))).drew) := (hB.setCell (by show _ ≤ w.heap.size + 1; omega) _).drew
      clear ol rm xb hf jq hA hZ hB
      go_wp2_with (go_at_call 50; refine PU.mono ?_; rintro e w1 ⟨⟨v, rfl⟩, rfl⟩)
      exact ⟨⟨k + 1, by omega, by go_num, sB, sz, st⟩, by simp [intOf]; omega⟩
    · have e32 : k = 32 := by omega
      subst e32
      have r1 := hA.c
      have r0 := hZ.c
      have z0 := hZ.z
      clear hA hZ
      go_wp2_with fail
      refine bodyPost_ret (v := .tuple #[.agg #[.int .u64 (pb 8 8 (bt s) 32 0), .int .u64 (pb 8 8 (bt s) 32 1), .int .u64 (pb 8 8 (bt s) 32 2), .int .u64 (pb 8 8 (bt s) 32 3)], .int .i64 0]) (by simp [results, Try.results10, go_sem, r0]) rfl ⟨rfl, ?_⟩
      go_grown
end Go.Proofs.Ytpigofooblmdhaa
set_option maxRecDepth 100000
namespace Go.Proofs.Ytpigofooblmdhaa
open Go.RowKit
theorem pb_lim (wd p : Nat) (f : Nat → Int) (hp : 0 < p) (hw : wd * p = 64) (hf : ∀ i, 0 ≤ f i ∧ f i < 2 ^ wd) (j : Nat) (hj : j < 4) : pb wd p f (4 * p) j = lim (pn wd f (4 * p)) j := by
  have e4 : (4 - j) * p = (3 - j) * p + p := by rw [show 4 - j = 3 - j + 1 by omega, Nat.add_mul, Nat.one_mul]
  have ej : 4 * p = (4 - j) * p + j * p := by rw [← Nat.add_mul]; congr 1; omega
  have a1 : pb wd p f (4 * p) j = pn wd (sh f ((3 - j) * p)) p := by
    rw [pb_is wd p f hp (4 * p) j hj (Nat.le_refl _), if_neg (by omega)]
    split
    · congr 1; omega
    · rfl
  have p64 : (2 : Int) ^ (wd * p) = 18446744073709551616 := by rw [hw]; rfl
  have pj : (2 : Int) ^ (wd * (j * p)) = 18446744073709551616 ^ j := by
    rw [show wd * (j * p) = wd * p * j by rw [Nat.mul_comm j p, Nat.mul_assoc], Int.pow_mul, p64]
  have b0 := pn_nn wd (sh f ((4 - j) * p)) (fun i => (hf _).1) (j * p)
  have b1 := pn_lt wd (sh f ((4 - j) * p)) (fun i => hf _) (j * p)
  have c0 := pn_nn wd (sh f ((3 - j) * p)) (fun i => (hf _).1) p
  have c1 := pn_lt wd (sh f ((3 - j) * p)) (fun i => hf _) p
  rw [p64] at c1
  rw [pj] at b1
  have d1 := pn_add wd f ((4 - j) * p) (j * p)
  have d2 := pn_add wd f ((3 - j) * p) p
  rw [← ej, pj, e4] at d1
  rw [p64] at d2
  have pp : (0 : Int) < 18446744073709551616 ^ j := Int.pow_pos (by omega)
  rw [a1]
  unfold lim
  rw [d1, d2, Int.add_comm, Int.add_mul_ediv_right _ _ (Int.ne_of_gt pp), Int.ediv_eq_zero_of_lt (by rw [e4] at b0; exact b0) (by rw [e4] at b1; exact b1), Int.zero_add]
  omega
theorem nv_pb (wd p : Nat) (f : Nat → Int) (hp : 0 < p) (hw : wd * p = 64) (hf : ∀ i, 0 ≤ f i ∧ f i < 2 ^ wd) :
    (.agg #[.int .u64 (pb wd p f (4 * p) 0), .int .u64 (pb wd p f (4 * p) 1), .int .u64 (pb wd p f (4 * p) 2), .int .u64 (pb wd p f (4 * p) 3)] : Value) = nv (pn wd f (4 * p)) := by
  simp only [nv, pb_lim wd p f hp hw hf 0 (by omega), pb_lim wd p f hp hw hf 1 (by omega), pb_lim wd p f hp hw hf 2 (by omega), pb_lim wd p f hp hw hf 3 (by omega)]
theorem bt_8 (s : ByteArray) : ∀ i, 0 ≤ bt s i ∧ bt s i < 2 ^ 8 := fun i => by have := bt_bd s i; simpa using this
theorem fromBig_yes (s : ByteArray) (hs : s.size = 32) (w : World) :
    Calls Try.prog 10 #[.string s] w fun e w' => e = .returned (.tuple #[nv (pn 8 (bt s) 32), .int .i64 0]) ∧ Below w.heap.size w w' := by
  have := fromBig_ok s hs w
  rw [show (32 : Nat) = 4 * 8 from rfl, nv_pb 8 8 (bt s) (by omega) (by omega) (bt_8 s)] at this
  exact this
set_option maxHeartbeats 1000000 in
theorem fromBig_no (s : ByteArray) (hs : s.size ≤ maxLen) (hn : s.size ≠ 32) (w : World) :
    Calls Try.prog 10 #[.string s] w fun e w' => e = .returned (.tuple #[.agg #[.int .u64 0, .int .u64 0, .int .u64 0, .int .u64 0], .int .i64 (lenE s.size 32)]) ∧ Below w.heap.size w w' := by
  have LE := fun W => lengthError_any s 32 hs W
  have ne : ¬ lenE (s.size : Int) 32 = 0 := by unfold lenE; split <;> (try split) <;> omega
  generalize lenE (s.size : Int) 32 = E at *
  go_enter Try.func10, Try.ntmps10
  go_wp2_with (go_at_call 48; refine (LE _).mono ?_; rintro e w1 ⟨rfl, rfl⟩)
  refine bodyPost_ret (v := .tuple #[.agg #[.int .u64 0, .int .u64 0, .int .u64 0, .int .u64 0], .int .i64 E]) (by simp [results, Try.results10, go_sem]) rfl ⟨rfl, ?_⟩
  go_grown
def alld (s : ByteArray) (k : Nat) : Prop := ∀ i, i < k → dgo (bt s i) = true
def dg (s : ByteArray) (i : Nat) : Int := dgv (bt s i)
theorem dg_4 (s : ByteArray) : ∀ i, 0 ≤ dg s i ∧ dg s i < 2 ^ 4 := fun i => by
  unfold dg dgv
  split
  · simp; omega
  · split
    · simp; omega
    · simp
set_option maxHeartbeats 1000000 in
theorem parse_no (s : ByteArray) (hs : s.size ≤ maxLen) (hn : s.size ≠ 64) (w : World) :
    Calls Try.prog 8 #[.string s] w fun e w' => e = .returned (.tuple #[.agg #[.int .u64 0, .int .u64 0, .int .u64 0, .int .u64 0], .int .i64 (lenE s.size 64)]) ∧ Below w.heap.size w w' := by
  have LE := fun W => lengthError_any s 64 hs W
  have ne : ¬ lenE (s.size : Int) 64 = 0 := by unfold lenE; split <;> (try split) <;> omega
  generalize lenE (s.size : Int) 64 = E at *
  go_enter Try.func8, Try.ntmps8
  go_wp2_with (go_at_call 48; refine (LE _).mono ?_; rintro e w1 ⟨rfl, rfl⟩)
  refine bodyPost_ret (v := .tuple #[.agg #[.int .u64 0, .int .u64 0, .int .u64 0, .int .u64 0], .int .i64 E]) (by simp [results, Try.results8, go_sem]) rfl ⟨rfl, ?_⟩
  go_grown
set_option maxRecDepth 100000 in
set_option maxHeartbeats 4000000 in
theorem parse_64 (s : ByteArray) (hs : s.size = 64) (w : World) :
    Calls Try.prog 8 #[.string s] w fun e w' => ((alld s 64 ∧ e = .returned (.tuple #[.agg #[.int .u64 (pb 4 16 (dg s) 64 0), .int .u64 (pb 4 16 (dg s) 64 1), .int .u64 (pb 4 16 (dg s) 64 2), .int .u64 (pb 4 16 (dg s) 64 3)], .int .i64 0])) ∨
      (¬ alld s 64 ∧ e = .returned (.tuple #[.agg #[.int .u64 0, .int .u64 0, .int .u64 0, .int .u64 0], .int .i64 10]))) ∧ Below w.heap.size w w' := by
  have LE := fun W => lengthError_any s 64 (by rw [hs]; decide) W
  have le0 : lenE (s.size : Int) 64 = 0 := by rw [hs]; decide
  rw [le0] at LE
  go_enter Try.func8, Try.ntmps8
  go_wp2_with (go_at_call 48; refine (LE _).mono ?_; rintro e w1 ⟨rfl, rfl⟩)
  go_loopw [15] (fun i wr => ∃ k : Nat, k ≤ 64 ∧ i = .int .i64 k ∧ alld s k ∧ Below w.heap.size w wr ∧ Arr wr w.heap.size 4 (fun _ => .int .u64 0) ∧ Arr wr (w.heap.size + 1) 4 (fun j => .int .u64 (pb 4 16 (dg s) k j)))
    (fun i _ => 64 - (intOf i).toNat)
  case atStart => exact ⟨0, by omega, rfl, fun i h => by omega, by go_grown, Arr.mk4 (by simp [go_sem]) (by simp [go_sem]) (by simp [go_sem]) (by simp [go_sem]) (by simp [go_sem]) (by simp [go_sem]) (by simp [go_sem]) (by simp [go_sem]), Arr.mk4 (by simp [go_sem, pb]) (by simp [go_sem, pb]) (by simp [go_sem, pb]) (by simp [go_sem, pb]) (by simp [go_sem]) (by simp [go_sem]) (by simp [go_sem]) (by simp [go_sem])⟩
  case round =>
    clear LE le0
    obtain ⟨k, hk, rfl, hall, hB, hZ, hA⟩ := hrel
    by_cases hlt : k < 64
    · have k0 : (0 : Int) ≤ (k : Int) := by omega
      have k64 : (k : Int) < 64 := by omega
      obtain ⟨q, hq⟩ : ∃ q : Nat, (k : Int) / 16 = (q : Int) := ⟨k / 16, by omega⟩
      have q4 : q < 4 := by omega
      have jq : 3 - q + k / 16 = 3 := by omega
      have bb := bt_bd s k
      have I := fun W => idxS s k (by omega) W
      have DV := fun W => digitValue_any (bt s k) bb.1 bb.2 W
      by_cases hd : dgo (bt s k) = true
      · have hf := dg_4 s
        have db : 0 ≤ dg s k ∧ dg s k < 256 := by have := hf k; simp at this; omega
        have rm := pb_room 4 16 (dg s) (by omega) (by omega) hf k (3 - q) (by omega) (by omega) jq
        have xb := pb_bd 4 16 (dg s) (by omega) (by omega) hf k (3 - q) (by omega) (by omega)
        have PU := push_any (w.heap.size + 1) _ q q4 4 (dg s k) (pb 4 16 (dg s) k (3 - q)) (by omega) (by omega) db.1 db.2 wr hA rfl xb.1 xb.2
        have ol := or_low (pb 4 16 (dg s) k (3 - q)) (dg s k) 4 (.inl rfl) xb.1 rm db.1 (hf k).2
        rw [show (4 : Int).toNat = 4 from rfl, ol, show (2 : Int) ^ 4 = 16 by decide] at PU
        have st : Arr ((wr.setCell ⟨w.heap.size + 1, 3 - q, none⟩ (.int .u64 (pb 4 16 (dg s) k (3 - q) * 16 + dg s k))).drew) (w.heap.size + 1) 4 (fun j => .int .u64 (pb 4 16 (dg s) (k + 1) j)) := by
          refine ((hA.set (3 - q) (by omega) _).congr ?_).drew
          intro j hj
          show _ = Value.int .u64 (if j + k / 16 = 3 then pb 4 16 (dg s) k j * 2 ^ 4 + dg s k else pb 4 16 (dg s) k j)
          by_cases h : j = 3 - q
          · subst h; rw [if_pos rfl, if_pos jq, show (2 : Int) ^ 4 = 16 by decide]
          · rw [if_neg h, if_neg (by omega)]
        have sz : Arr ((wr.setCell ⟨w.heap.size + 1, 3 - q, none⟩ (.int .u64 (pb 4 16 (dg s) k (3 - q) * 16 + dg s k))).drew) w.heap.size 4 (fun _ => .int .u64 0) := (hZ.other (by omega) _).drew
        have sB : Below w.heap.size w ((wr.setCell ⟨w.heap.size + 1, 3 - q, none⟩ (.int .u64 (pb 4 16 (dg s) k (3 - q) * 16 + dg s k))).drew) := (hB.setCell (by show _ ≤ w.heap.size + 1; omega) _).drew
        have hall' : alld s (k + 1) := fun i hi => by
          by_cases e : i = k
          · subst e; exact hd
          · exact hall i (by omega)
        rw [hd] at DV
        have DV' : ∀ W, Calls Try.prog 49 #[.int .u8 (bt s k)] W fun e w' => e = .returned (.tuple #[.int .u8 (dg s k), .bool true]) ∧ w' = W := DV
        have HA : Hid (alld s (k + 1)) := hall'
        clear ol rm xb hf jq hA hZ hB DV hall hall' hd
        go_wp2_with (first | (go_at_call 49; refine (DV' _).mono ?_; rintro e w1 ⟨rfl, rfl⟩) | (go_at_call 50; refine PU.mono ?_; rintro e w1 ⟨⟨v, rfl⟩, rfl⟩))
        exact ⟨⟨k + 1, by omega, by go_num, HA.out, sB, sz, st⟩, by simp [intOf]; omega⟩
      · have hd' : dgo (bt s k) = false := by simpa using hd
        rw [hd'] at DV
        have HN : Hid (¬ alld s 64) := fun h => hd (h k hlt)
        have r0 := hZ.c
        have z0 := hZ.z
        clear hA hZ hall hd hd' jq
        go_wp2_with (first | (go_at_call 49; refine (DV _).mono ?_; rintro e w1 ⟨rfl, rfl⟩))
        refine bodyPost_ret (v := .tuple #[.agg #[.int .u64 0, .int .u64 0, .int .u64 0, .int .u64 0], .int .i64 10]) (by simp [results, Try.results8, go_sem, r0]) rfl ⟨.inr ⟨HN.out, rfl⟩, ?_⟩
        go_grown
    · have e64 : k = 64 := by omega
      subst e64
      have r1 := hA.c
      have r0 := hZ.c
      have z0 := hZ.z
      have HA : Hid (alld s 64) := hall
      clear hA hZ hall
      go_wp2_with fail
      refine bodyPost_ret (v := .tuple #[.agg #[.int .u64 (pb 4 16 (dg s) 64 0), .int .u64 (pb 4 16 (dg s) 64 1), .int .u64 (pb 4 16 (dg s) 64 2), .int .u64 (pb 4 16 (dg s) 64 3)], .int .i64 0]) (by simp [results, Try.results8, go_sem, r0]) rfl ⟨.inl ⟨HA.out, rfl⟩, ?_⟩
      go_grown
end Go.Proofs.Ytpigofooblmdhaa
set_option maxRecDepth 100000
namespace Go.Proofs.Ytpigofooblmdhaa
open Go.RowKit
def mkS (ns : List Int) : ByteArray := ns.foldl (fun r n => r.push (UInt8.ofNat n.toNat)) ByteArray.empty
theorem mkS_data (ns : List Int) : ∀ r : ByteArray, (ns.foldl (fun r n => r.push (UInt8.ofNat n.toNat)) r).data.toList = r.data.toList ++ ns.map (fun n => UInt8.ofNat n.toNat) := by
  induction ns with
  | nil => intro r; simp
  | cons n ns ih =>
    intro r
    rw [List.foldl_cons, ih]
    show (r.data.push _).toList ++ _ = _
    simp
theorem mkS_list (ns : List Int) : (mkS ns).data.toList = ns.map (fun n => UInt8.ofNat n.toNat) := by
  unfold mkS; rw [mkS_data]; rfl
theorem mkS_size (ns : List Int) : (mkS ns).size = ns.length := by
  have h := congrArg List.length (mkS_list ns)
  rw [Array.length_toList, List.length_map] at h
  exact h
theorem mkS_bt (ns : List Int) (i : Nat) (n : Int) (hi : ns[i]? = some n) (h0 : 0 ≤ n) (h1 : n < 256) : bt (mkS ns) i = n := by
  unfold bt
  have e : (mkS ns).data[i]? = (ns.map (fun n => UInt8.ofNat n.toNat))[i]? := by rw [← mkS_list, Array.getElem?_toList]
  rw [e, List.getElem?_map, hi]
  show ((UInt8.ofNat n.toNat).toNat : Int) = n
  rw [UInt8.toNat_ofNat']
  omega
theorem conv32 (W : World) (g : Nat) (ns : List Int) (h32 : ns.length = 32) (hc : ∀ j, j < 32 → W.cell? ⟨g, j, none⟩ = some (.int .u8 (ns.getD j 0))) :
    (convert 43 9 (.slice (some ⟨g, 0, none⟩) 32 32)).run Try.prog W = .ok (.string (mkS ns)) W := by
  rw [run_convert_bytes_string W 43 9 5 _ 32 32 Try.underlying43 Try.underlying5 Try.underlying9]
  refine run_bytesToString W ⟨g, 0, none⟩ 32 32 ns ?_
  have := run_loadCells_list (P := Try.prog) W ⟨g, 0, none⟩ (ns.map (Value.int .u8)) (by
    intro j v hv
    rw [Addr.add_mid, Nat.zero_add]
    rw [List.getElem?_map] at hv
    obtain ⟨n, hn, rfl⟩ := Option.map_eq_some_iff.1 hv
    have hj : j < 32 := by rw [← h32]; exact (List.getElem?_eq_some_iff.1 hn).1
    rw [hc j hj, List.getD, hn]; rfl)
  rw [List.length_map, h32] at this
  exact this
theorem store32 (L : List Value) (hlen : L.length = 32) (hone : ∀ v ∈ L, v.oneCell' = true) (W : World) :
    (storeCells ⟨W.heap.size, 0, none⟩ L).run Try.prog (W.alloc (.cells #[.int .u8 0, .int .u8 0, .int .u8 0, .int .u8 0, .int .u8 0, .int .u8 0, .int .u8 0, .int .u8 0, .int .u8 0, .int .u8 0, .int .u8 0, .int .u8 0, .int .u8 0, .int .u8 0, .int .u8 0, .int .u8 0, .int .u8 0, .int .u8 0, .int .u8 0, .int .u8 0, .int .u8 0, .int .u8 0, .int .u8 0, .int .u8 0, .int .u8 0, .int .u8 0, .int .u8 0, .int .u8 0, .int .u8 0, .int .u8 0, .int .u8 0, .int .u8 0] 57)) = .ok () (W.alloc (.cells L.toArray 57)) := by
  have := run_storeCells_new (P := Try.prog) W 57 #[.int .u8 0, .int .u8 0, .int .u8 0, .int .u8 0, .int .u8 0, .int .u8 0, .int .u8 0, .int .u8 0, .int .u8 0, .int .u8 0, .int .u8 0, .int .u8 0, .int .u8 0, .int .u8 0, .int .u8 0, .int .u8 0, .int .u8 0, .int .u8 0, .int .u8 0, .int .u8 0, .int .u8 0, .int .u8 0, .int .u8 0, .int .u8 0, .int .u8 0, .int .u8 0, .int .u8 0, .int .u8 0, .int .u8 0, .int .u8 0, .int .u8 0, .int .u8 0] L.toArray (by rw [List.size_toArray, hlen]; exact Try.info57) (by show 32 = L.toArray.size; rw [List.size_toArray, hlen]) (all_oneCell_toArray hone)
  rw [List.toList_toArray] at this
  exact this
set_option maxHeartbeats 1000000 in
theorem big_core (N : Int) (L : List Value) (S : ByteArray) (hlen : L.length = 32) (ST : ∀ W : World, (storeCells ⟨W.heap.size, 0, none⟩ L).run Try.prog (W.alloc (.cells #[.int .u8 0, .int .u8 0, .int .u8 0, .int .u8 0, .int .u8 0, .int .u8 0, .int .u8 0, .int .u8 0, .int .u8 0, .int .u8 0, .int .u8 0, .int .u8 0, .int .u8 0, .int .u8 0, .int .u8 0, .int .u8 0, .int .u8 0, .int .u8 0, .int .u8 0, .int .u8 0, .int .u8 0, .int .u8 0, .int .u8 0, .int .u8 0, .int .u8 0, .int .u8 0, .int .u8 0, .int .u8 0, .int .u8 0, .int .u8 0, .int .u8 0, .int .u8 0] 57)) = .ok () (W.alloc (.cells L.toArray 57)))
    (CV : ∀ W : World, (convert 43 9 (.slice (some ⟨W.heap.size, 0, none⟩) 32 32)).run Try.prog (W.alloc (.cells L.toArray 57)) = .ok (.string S) (W.alloc (.cells L.toArray 57)))
    (BB : ∀ W, Calls Try.prog 55 #[nv N] W fun e w' => e = .returned (.agg L.toArray) ∧ Below W.heap.size W w') (w : World) :
    Calls Try.prog 16 #[nv N] w fun e w' => e = .returned (.string S) ∧ Below w.heap.size w w' := by
  go_enter Try.func16, Try.ntmps16
  go_wp2_with fail
  refine (BB _).mono ?_
  rintro e w1 ⟨rfl, hb1⟩
  have hB1 : Below w.heap.size w w1 := Below.trans (by go_grown) (hb1.mono (by go_size))
  clear hb1 BB
  go_wp2_with fail
  go_ret
  exact ⟨rfl, hB1.alloc hB1.size _⟩
def bgL (N : Int) : List Int := (List.range 32).map (byt N)
theorem bgL_at (N : Int) (j : Nat) (hj : j < 32) : (bgL N)[j]? = some (byt N j) := by simp [bgL, hj]
theorem big_any (N : Int) (hN : 0 ≤ N) (hN' : N < top256) (w : World) :
    Calls Try.prog 16 #[nv N] w fun e w' => e = .returned (.string (mkS (bgL N))) ∧ Below w.heap.size w w' := by
  have hat := bytsL_at N
  refine big_core N (bytsL N) (mkS (bgL N)) (bytsL_len N) (fun W => store32 _ (bytsL_len N) (bytsL_one N) W) (fun W => ?_) (fun W => bigBytes_any N hN hN' W) w
  refine conv32 _ _ _ (by simp [bgL]) ?_
  intro j hj
  have := (Arr.new W (bytsL N).toArray 57 W.heap.size rfl (fun j => .int .u8 (byt N j)) 32 (by intro i hi; rw [List.getElem?_toArray]; exact hat i hi)).c j hj
  rw [this, List.getD, bgL_at N j hj]; rfl
end Go.Proofs.Ytpigofooblmdhaa
set_option maxRecDepth 100000
namespace Go.Proofs.Ytpigofooblmdhaa
open Go.RowKit
def rv (f : Nat → Int) (k m : Nat) : Int := if m < k ∨ 31 < m + k then f (31 - m) else f m
set_option maxHeartbeats 4000000 in
theorem reverse_any (b cap : Nat) (f : Nat → Int) (w : World) (hA : Arr w b 32 (fun m => .int .u8 (f m))) :
    Calls Try.prog 54 #[.slice (some ⟨b, 0, none⟩) 32 cap] w fun e w' => (∃ v, e = .returned v) ∧ Below b w w' ∧ w'.heap.size = w.heap.size ∧ Arr w' b 32 (fun m => .int .u8 (f (31 - m))) := by
  go_enter Try.func54, Try.ntmps54
  go_wp2_with fail
  go_loopw [2, 3] (fun i j wr => ∃ k : Nat, k ≤ 16 ∧ i = .int .i64 k ∧ j = .int .i64 (31 - (k : Int)) ∧ Below b w wr ∧ wr.heap.size = w.heap.size ∧ Arr wr b 32 (fun m => .int .u8 (rv f k m)))
    (fun i _ _ => 16 - (intOf i).toNat)
  case atStart => exact ⟨0, by omega, rfl, rfl, Below.refl _ _, rfl, hA.congr (by intro j hj; unfold rv; rw [if_neg (by omega)])⟩
  case round =>
    clear hA
    obtain ⟨k, hk, rfl, rfl, hB, hS, hA⟩ := hrel
    by_cases hlt : k < 16
    · have k0 : (0 : Int) ≤ (k : Int) := by omega
      have k31 : (k : Int) < 31 - (k : Int) := by omega
      have k32 : (k : Int) < 32 := by omega
      obtain ⟨q, hq⟩ : ∃ q : Nat, (31 : Int) - (k : Int) = (q : Int) := ⟨31 - k, by omega⟩
      rw [hq]
      rw [hq] at k31
      have q0 : (0 : Int) ≤ (q : Int) := by omega
      have q32 : (q : Int) < 32 := by omega
      have qk : q = 31 - k := by omega
      have rk : wr.cell? ⟨b, k, none⟩ = some (.int .u8 (f k)) := by
        have := hA.c k (by omega); unfold rv at this; rw [if_neg (by omega)] at this; exact this
      have rq : wr.cell? ⟨b, q, none⟩ = some (.int .u8 (f q)) := by
        have := hA.c q (by omega); unfold rv at this; rw [if_neg (by omega)] at this; exact this
      have zk := hA.z k (by omega)
      have zq := hA.z q (by omega)
      have nkq : ¬ k = q := by omega
      have nqk : ¬ q = k := by omega
      have st : Arr ((wr.setCell ⟨b, k, none⟩ (.int .u8 (f q))).setCell ⟨b, q, none⟩ (.int .u8 (f k))) b 32 (fun m => .int .u8 (rv f (k + 1) m)) := by
        refine ((hA.set k (by omega) (.int .u8 (f q))).set q (by omega) (.int .u8 (f k))).congr ?_
        intro m hm
        unfold rv
        by_cases e1 : m = q
        · rw [if_pos e1, if_pos (by omega), show 31 - m = k by omega]
        · rw [if_neg e1]
          by_cases e2 : m = k
          · rw [if_pos e2, if_pos (by omega), show 31 - m = q by omega]
          · rw [if_neg e2]
            by_cases e3 : m < k ∨ 31 < m + k
            · rw [if_pos e3, if_pos (by omega)]
            · rw [if_neg e3, if_neg (by omega)]
      have sB : Below b w ((wr.setCell ⟨b, k, none⟩ (.int .u8 (f q))).setCell ⟨b, q, none⟩ (.int .u8 (f k))) := (hB.setCell (by show _ ≤ b; omega) _).setCell (by show _ ≤ b; omega) _
      have HK : Hid (q = 31 - k) := qk
      clear qk hA hB hq
      go_wp2_with fail
      go_region
      go_wp2_with fail
      exact ⟨⟨k + 1, by omega, by go_num, by have := HK.out; go_num, sB.drew, by simp only [World.size_drew, size_set]; exact hS, st.drew⟩, by simp [intOf]; omega⟩
    · have e16 : k = 16 := by omega
      subst e16
      have fin : Arr wr b 32 (fun m => .int .u8 (f (31 - m))) := hA.congr (by intro m hm; unfold rv; rw [if_pos (by omega)])
      clear hA
      go_wp2_with fail
      go_end0
      exact ⟨⟨_, rfl⟩, hB, hS, fin⟩
set_option maxHeartbeats 1000000 in
theorem little_core (N : Int) (L : List Value) (S : ByteArray) (g : Nat → Int) (hlen : L.length = 32) (hat : Hid (∀ j, j < 32 → L[j]? = some (.int .u8 (g j)))) (ST : ∀ W : World, (storeCells ⟨W.heap.size, 0, none⟩ L).run Try.prog (W.alloc (.cells #[.int .u8 0, .int .u8 0, .int .u8 0, .int .u8 0, .int .u8 0, .int .u8 0, .int .u8 0, .int .u8 0, .int .u8 0, .int .u8 0, .int .u8 0, .int .u8 0, .int .u8 0, .int .u8 0, .int .u8 0, .int .u8 0, .int .u8 0, .int .u8 0, .int .u8 0, .int .u8 0, .int .u8 0, .int .u8 0, .int .u8 0, .int .u8 0, .int .u8 0, .int .u8 0, .int .u8 0, .int .u8 0, .int .u8 0, .int .u8 0, .int .u8 0, .int .u8 0] 57)) = .ok () (W.alloc (.cells L.toArray 57)))
    (CV : Hid (∀ (W : World) b, Arr W b 32 (fun m => .int .u8 (g (31 - m))) → (convert 43 9 (.slice (some ⟨b, 0, none⟩) 32 32)).run Try.prog W = .ok (.string S) W))
    (BB : ∀ W, Calls Try.prog 55 #[nv N] W fun e w' => e = .returned (.agg L.toArray) ∧ Below W.heap.size W w') (w : World) :
    Calls Try.prog 18 #[nv N] w fun e w' => e = .returned (.string S) ∧ Below w.heap.size w w' := by
  go_enter Try.func18, Try.ntmps18
  go_wp2_with fail
  refine (BB _).mono ?_
  rintro e w1 ⟨rfl, hb1⟩
  have hB1 : Below w.heap.size w w1 := Below.trans (by go_grown) (hb1.mono (by go_size))
  have hA : Arr (w1.alloc (.cells L.toArray 57)) w1.heap.size 32 (fun m => .int .u8 (g m)) := Arr.new _ _ _ _ rfl _ 32 (by intro i hi; rw [List.getElem?_toArray]; exact hat.out i hi)
  clear hb1 BB
  go_wp2_with fail
  refine (reverse_any w1.heap.size 32 g _ hA).mono ?_
  rintro e w2 ⟨⟨v, rfl⟩, hb2, hs2, hA2⟩
  have cv := CV.out w2 w1.heap.size hA2
  have hB2 : Below w.heap.size w w2 := (hB1.alloc hB1.size _).trans (hb2.mono hB1.size)
  clear hA hA2 hb2
  go_wp2_with fail
  go_ret
  exact ⟨rfl, hB2⟩
def ltL (N : Int) : List Int := (List.range 32).map fun j => byt N (31 - j)
theorem ltL_at (N : Int) (j : Nat) (hj : j < 32) : (ltL N)[j]? = some (byt N (31 - j)) := by simp [ltL, hj]
theorem little_any (N : Int) (hN : 0 ≤ N) (hN' : N < top256) (w : World) :
    Calls Try.prog 18 #[nv N] w fun e w' => e = .returned (.string (mkS (ltL N))) ∧ Below w.heap.size w w' := by
  refine little_core N (bytsL N) (mkS (ltL N)) (byt N) (bytsL_len N) (bytsL_at N) (fun W => store32 _ (bytsL_len N) (bytsL_one N) W) (fun W b hA => ?_) (fun W => bigBytes_any N hN hN' W) w
  refine conv32 _ _ _ (by simp [ltL]) ?_
  intro j hj
  rw [hA.c j hj, List.getD, ltL_at N j hj]; rfl
theorem convN (W : World) (g cap : Nat) (ns : List Int) (h32 : ns.length = 32) (hc : ∀ j, j < 32 → W.cell? ⟨g, j, none⟩ = some (.int .u8 (ns.getD j 0))) :
    (convert 43 9 (.slice (some ⟨g, 0, none⟩) 32 cap)).run Try.prog W = .ok (.string (mkS ns)) W := by
  rw [run_convert_bytes_string W 43 9 5 _ 32 cap Try.underlying43 Try.underlying5 Try.underlying9]
  refine run_bytesToString W ⟨g, 0, none⟩ 32 cap ns ?_
  have := run_loadCells_list (P := Try.prog) W ⟨g, 0, none⟩ (ns.map (Value.int .u8)) (by
    intro j v hv
    rw [Addr.add_mid, Nat.zero_add]
    rw [List.getElem?_map] at hv
    obtain ⟨n, hn, rfl⟩ := Option.map_eq_some_iff.1 hv
    have hj : j < 32 := by rw [← h32]; exact (List.getElem?_eq_some_iff.1 hn).1
    rw [hc j hj, List.getD, hn]; rfl)
  rw [List.length_map, h32] at this
  exact this
def tnL (s : ByteArray) : List Int := (List.range 32).map fun j => bt s (31 - j)
theorem tnL_at (s : ByteArray) (j : Nat) (hj : j < 32) : (tnL s)[j]? = some (bt s (31 - j)) := by simp [tnL, hj]
theorem toBytes (s : ByteArray) (hs : s.size = 32) (W : World) : ∃ (cap : Nat) (o : Obj), (convert 9 43 (.string s)).run Try.prog W = .ok (.slice (some ⟨W.heap.size, 0, none⟩) 32 cap) (W.drew.alloc o) ∧ Arr (W.drew.alloc o) W.heap.size 32 (fun m => .int .u8 (bt s m)) := by
  have h := run_bytes_of_string (P := Try.prog) W 9 43 5 s Try.underlying9 Try.underlying43 Try.underlying5
  rw [hs] at h
  refine ⟨_, _, h, ?_⟩
  intro j hj
  have hh : ∀ o : Obj, (W.drew.alloc o).heap[W.heap.size]? = some o := fun o => by
    show (W.heap.push o)[W.heap.size]? = some o
    simp
  have hrow : ∀ cap, (bytesRow s cap)[j]? = some (.int .u8 (bt s j)) := fun cap => by
    unfold bytesRow bt
    have hj' : j < s.data.size := by have : s.data.size = 32 := hs; omega
    rw [Array.getElem?_append_left (by rw [Array.size_map]; exact hj'), Array.getElem?_map, Array.getElem?_eq_getElem hj']
    rfl
  have hsz : ∀ cap, 32 ≤ (bytesRow s cap).size := fun cap => by
    unfold bytesRow
    rw [Array.size_append, Array.size_map]
    have : s.data.size = 32 := hs
    omega
  constructor
  · unfold World.cell?
    simp only [hh]
    exact hrow _
  · unfold World.frozen?
    simp only [hh]
    have := hsz (grownCap W 32 0 5)
    rw [Bool.and_eq_false_iff]
    left
    simp
    omega
set_option maxRecDepth 100000 in
set_option maxHeartbeats 2000000 in
theorem fromLittle_ok (s : ByteArray) (hs : s.size = 32) (R : Int) (FB : ∀ W, Calls Try.prog 10 #[.string (mkS (tnL s))] W fun e w' => e = .returned (.tuple #[nv R, .int .i64 0]) ∧ Below W.heap.size W w') (w : World) :
    Calls Try.prog 12 #[.string s] w fun e w' => e = .returned (.tuple #[nv R, .int .i64 0]) ∧ Below w.heap.size w w' := by
  have LE := fun W => lengthError_any s 32 (by rw [hs]; decide) W
  have le0 : lenE (s.size : Int) 32 = 0 := by rw [hs]; decide
  rw [le0] at LE
  obtain ⟨cap, o, cv, hA⟩ := toBytes s hs (w.alloc (.cells #[.int .u64 0, .int .u64 0, .int .u64 0, .int .u64 0] 24))
  rw [World.size_alloc] at cv hA
  have HA : Hid (Arr ((w.alloc (.cells #[.int .u64 0, .int .u64 0, .int .u64 0, .int .u64 0] 24)).drew.alloc o) (w.heap.size + 1) 32 (fun m => .int .u8 (bt s m))) := hA
  clear hA hs le0
  generalize hT : mkS (tnL s) = T at FB
  have HT : Hid (mkS (tnL s) = T) := hT
  clear hT
  go_enter Try.func12, Try.ntmps12
  go_wp2_with (go_at_call 48; refine (LE _).mono ?_; rintro e w1 ⟨rfl, rfl⟩)
  refine (reverse_any (w.heap.size + 1) cap (bt s) _ HA.out).mono ?_
  rintro e w2 ⟨⟨v, rfl⟩, hb2, hs2, hA2⟩
  have cv2 := convN w2 (w.heap.size + 1) cap (tnL s) (by simp [tnL]) (by intro j hj; rw [hA2.c j hj, List.getD, tnL_at s j hj]; rfl)
  rw [HT.out] at cv2
  have Z2 : Arr w2 w.heap.size 4 (fun _ => .int .u64 0) := (Arr.mk4 (w := (w.alloc (.cells #[.int .u64 0, .int .u64 0, .int .u64 0, .int .u64 0] 24)).drew.alloc o) (b := w.heap.size) (f := fun _ => .int .u64 0) (by simp [go_sem]) (by simp [go_sem]) (by simp [go_sem]) (by simp [go_sem]) (by simp [go_sem]) (by simp [go_sem]) (by simp [go_sem]) (by simp [go_sem])).below hb2 (by omega)
  have hB2 : Below w.heap.size w w2 := Below.trans (by go_grown) (hb2.mono (by omega))
  have s2 : w.heap.size < w2.heap.size := by have := hB2.size; simp at hs2; omega
  clear hA2 hb2 HA HT cv LE
  go_wp2_with fail
  refine (FB _).mono ?_
  rintro e w3 ⟨rfl, hb3⟩
  have Z3 := Z2.below hb3 s2
  have hB3 : Below w.heap.size w w3 := hB2.trans (hb3.mono hB2.size)
  have r0 := Z3.c
  have z0 := Z3.z
  clear hb3 Z2 Z3 FB cv2
  go_wp2_with fail
  refine bodyPost_ret (v := .tuple #[nv R, .int .i64 0]) (by simp [results, Try.results12, go_sem, r0]) rfl ⟨rfl, ?_⟩
  go_grown
end Go.Proofs.Ytpigofooblmdhaa
namespace Go.Proofs.Ytpigofooblmdhaa
open Go.RowKit
def hf (N : Int) (j : Nat) : Int := N / 4294967296 ^ j % 4294967296
def low (N : Int) (j : Nat) : Int := N % 4294967296 ^ j
def TT (A B : Int) (i k : Nat) : Int := low A i * B + hf A i * low B k * 4294967296 ^ i
def cr (A B : Int) (i k : Nat) : Int := TT A B i k / 4294967296 ^ (i + k) - low A i * B / 4294967296 ^ (i + k)
end Go.Proofs.Ytpigofooblmdhaa
set_option maxRecDepth 100000
namespace Go.Proofs.Ytpigofooblmdhaa
open Go.RowKit
set_option maxHeartbeats 1000000 in
theorem sized_any (s : ByteArray) (n : Int) (hs : s.size ≤ maxLen) (w : World) :
    Calls Try.prog 51 #[.string s, .int .i64 n] w fun e w' => e = .returned (.int .i64 (lenE s.size n)) ∧ w' = w := by
  unfold maxLen at hs
  unfold lenE
  by_cases h : (s.size : Int) < n
  · rw [if_pos h]
    go_enter Try.func51, Try.ntmps51
    go_wp2
    go_ret
    exact ⟨rfl, rfl⟩
  · rw [if_neg h]
    by_cases h2 : n < (s.size : Int)
    · rw [if_pos h2]
      go_enter Try.func51, Try.ntmps51
      go_wp2
      go_ret
      exact ⟨rfl, rfl⟩
    · rw [if_neg h2]
      go_enter Try.func51, Try.ntmps51
      go_wp2
      go_ret
      exact ⟨rfl, rfl⟩
def dgi (c : Int) : Int := if dgo c then dgv c else -1
set_option maxHeartbeats 1000000 in
theorem digit_ref (c : Int) (h0 : 0 ≤ c) (h1 : c < 256) (w : World) :
    Calls Try.prog 52 #[.int .u8 c] w fun e w' => e = .returned (.int .i64 (dgi c)) ∧ w' = w := by
  by_cases a : 48 ≤ c ∧ c ≤ 57
  · have e1 : dgi c = c - 48 := by unfold dgi dgv dgo; simp [a]
    rw [e1]
    obtain ⟨a1, a2⟩ := a
    clear e1
    go_enter Try.func52, Try.ntmps52
    go_wp2
    go_ret
    exact ⟨rfl, rfl⟩
  · by_cases b : 97 ≤ c ∧ c ≤ 102
    · have e1 : dgi c = c - 87 := by unfold dgi dgv dgo; rw [decide_eq_false a, decide_eq_true b, if_neg a, if_pos b]; rfl
      rw [e1]
      obtain ⟨b1, b2⟩ := b
      have a1 : (48 : Int) ≤ c := by omega
      have a2 : ¬ c ≤ 57 := by omega
      clear e1 a
      go_enter Try.func52, Try.ntmps52
      go_wp2
      go_ret
      exact ⟨by simp; omega, rfl⟩
    · have e1 : dgi c = -1 := by unfold dgi dgo; rw [decide_eq_false a, decide_eq_false b]; rfl
      rw [e1]
      clear e1
      by_cases h48 : 48 ≤ c
      · have h57 : ¬ c ≤ 57 := by omega
        by_cases h97 : 97 ≤ c
        · have h102 : ¬ c ≤ 102 := by omega
          clear a b
          go_enter Try.func52, Try.ntmps52
          go_wp2
          go_ret
          exact ⟨rfl, rfl⟩
        · clear a b
          go_enter Try.func52, Try.ntmps52
          go_wp2
          go_ret
          exact ⟨rfl, rfl⟩
      · have h97 : ¬ 97 ≤ c := by omega
        clear a b
        go_enter Try.func52, Try.ntmps52
        go_wp2
        go_ret
        exact ⟨rfl, rfl⟩
theorem made32 : ∃ C : Array Value, (∀ j, j < 32 → C[j]? = some (.int .u8 0)) ∧ ∀ W : World, (Instr.makeSlice 43 (.int .i64 32) (.int .i64 32)).run Try.prog W = .ok (.slice (some ⟨W.heap.size, 0, none⟩) 32 32) (W.alloc (.cells C 5)) := by
  obtain ⟨i0, hi, hz0, hz1, hz2⟩ := info_parts Try.info5
  refine ⟨madeCells (Value.int .u8 0).cells (32 * 1), ?_, fun W => ?_⟩
  · intro j hj
    simp only [madeCells, Value.cells]
    rw [Array.getElem?_map, Array.getElem?_range, if_pos (by omega)]
    simp [Nat.mod_one]
  · have := run_make (P := Try.prog) W 43 5 i0 (.int .u8 0) Try.underlying43 hi hz0 .i64 .i64 32 32 (by omega) (by omega) (by rw [hz2]; omega) (by omega)
    rw [hz1] at this
    exact this
theorem byt_lim (N : Int) (i q r : Nat) (hi : i = 8 * q + r) (hr : r < 8) (hq : q < 4) : lim N q / 2 ^ (8 * r) % 256 = byt N (31 - i) := by
  unfold byt lim
  have e1 : (18446744073709551616 : Int) ^ q = 2 ^ (64 * q) := by rw [Int.pow_mul]; rfl
  have e2 : 8 * (31 - (31 - i)) = 64 * q + 8 * r := by omega
  rw [e1, e2, Int.pow_add, ← Int.ediv_ediv_of_nonneg (Int.le_of_lt (Int.pow_pos (by omega)))]
  generalize N / 2 ^ (64 * q) = x
  have h : r = 0 ∨ r = 1 ∨ r = 2 ∨ r = 3 ∨ r = 4 ∨ r = 5 ∨ r = 6 ∨ r = 7 := by omega
  rcases h with rfl | rfl | rfl | rfl | rfl | rfl | rfl | rfl <;> simp <;> omega
set_option maxRecDepth 100000 in
set_option maxHeartbeats 4000000 in
theorem refLittle_core (N : Int) (C : Array Value) (hC : Hid (∀ j, j < 32 → C[j]? = some (.int .u8 0))) (mk : ∀ W : World, (Instr.makeSlice 43 (.int .i64 32) (.int .i64 32)).run Try.prog W = .ok (.slice (some ⟨W.heap.size, 0, none⟩) 32 32) (W.alloc (.cells C 5))) (w : World) :
    Calls Try.prog 19 #[nv N] w fun e w' => e = .returned (.string (mkS (ltL N))) ∧ Below w.heap.size w w' := by
  go_enter Try.func19, Try.ntmps19
  go_wp2_with fail
  go_loopw [4] (fun i wr => ∃ k : Nat, k ≤ 32 ∧ i = .int .i64 k ∧ Below w.heap.size w wr ∧ Arr wr w.heap.size 4 (fun j => .int .u64 (lim N j)) ∧ Arr wr (w.heap.size + 1) 32 (fun j => .int .u8 (if j < k then byt N (31 - j) else 0)))
    (fun i _ => 32 - (intOf i).toNat)
  case atStart =>
    refine ⟨0, by omega, rfl, by go_grown, Arr.mk4 (by simp [go_sem]) (by simp [go_sem]) (by simp [go_sem]) (by simp [go_sem]) (by simp [go_sem]) (by simp [go_sem]) (by simp [go_sem]) (by simp [go_sem]), ?_⟩
    exact (Arr.new _ _ _ _ (by simp) _ 32 hC.out).congr (by intro j hj; rw [if_neg (by omega)])
  case round =>
    clear mk hC
    obtain ⟨k, hk, rfl, hB, hN, hA⟩ := hrel
    by_cases hlt : k < 32
    · have k0 : (0 : Int) ≤ (k : Int) := by omega
      have k32 : (k : Int) < 32 := by omega
      obtain ⟨q, r, hq, hr, e, q4, r8⟩ : ∃ q r : Nat, (k : Int) / 8 = (q : Int) ∧ (k : Int) % 8 = (r : Int) ∧ k = 8 * q + r ∧ q < 4 ∧ r < 8 := ⟨k / 8, k % 8, by omega, by omega, by omega, by omega, by omega⟩
      have q0 : (0 : Int) ≤ (q : Int) := by omega
      have q4' : (q : Int) < 4 := by omega
      have r0 : (0 : Int) ≤ (r : Int) := by omega
      have r8' : (r : Int) < 8 := by omega
      have rn := hN.c q q4
      have ra := hA.c k hlt
      have za := hA.z k hlt
      have tn : (8 * (r : Int)).toNat = 8 * r := by omega
      have bl := byt_lim N k q r e r8 q4
      have wb : IntKind.u8.wrap (lim N q / 2 ^ (8 * r)) = byt N (31 - k) := by rw [IntKind.wrap_u8]; exact bl
      have st : Arr (wr.setCell ⟨w.heap.size + 1, k, none⟩ (.int .u8 (byt N (31 - k)))) (w.heap.size + 1) 32 (fun j => .int .u8 (if j < k + 1 then byt N (31 - j) else 0)) := by
        refine (hA.set k hlt _).congr ?_
        intro j hj
        by_cases h : j = k
        · subst h; rw [if_pos rfl, if_pos (by omega)]
        · rw [if_neg h]
          by_cases h2 : j < k
          · rw [if_pos h2, if_pos (by omega)]
          · rw [if_neg h2, if_neg (by omega)]
      have sn := hN.other (b' := w.heap.size + 1) (k := k) (by omega) (.int .u8 (byt N (31 - k)))
      have sB : Below w.heap.size w (wr.setCell ⟨w.heap.size + 1, k, none⟩ (.int .u8 (byt N (31 - k)))) := hB.setCell (by show _ ≤ w.heap.size + 1; omega) _
      clear bl e hA hN hB
      go_wp2_with fail
      exact ⟨⟨k + 1, by omega, by go_num, sB, sn, st⟩, by simp [intOf]; omega⟩
    · have e32 : k = 32 := by omega
      subst e32
      have cv := conv32 wr (w.heap.size + 1) (ltL N) (by simp [ltL]) (by intro j hj; rw [hA.c j hj, if_pos hj, List.getD, ltL_at N j hj]; rfl)
      clear hA hN
      generalize hT : mkS (ltL N) = T at cv
      have HT : Hid (mkS (ltL N) = T) := hT
      clear hT
      go_wp2_with fail
      go_ret
      exact ⟨by rw [HT.out]; rfl, hB⟩
theorem refLittle_any (N : Int) (w : World) : Calls Try.prog 19 #[nv N] w fun e w' => e = .returned (.string (mkS (ltL N))) ∧ Below w.heap.size w w' := by
  obtain ⟨C, hC, mk⟩ := made32
  exact refLittle_core N C hC mk w
end Go.Proofs.Ytpigofooblmdhaa
set_option maxRecDepth 100000
namespace Go.Proofs.Ytpigofooblmdhaa
open Go.RowKit
theorem madeN (n : Nat) (hn : (n : Int) ≤ 281474976710656) : ∃ C : Array Value, (∀ j, j < n → C[j]? = some (.int .u8 0)) ∧ ∀ W : World, (Instr.makeSlice 43 (.int .i64 (n : Int)) (.int .i64 (n : Int))).run Try.prog W = .ok (.slice (some ⟨W.heap.size, 0, none⟩) n n) (W.alloc (.cells C 5)) := by
  obtain ⟨i0, hi, hz0, hz1, hz2⟩ := info_parts Try.info5
  refine ⟨madeCells (Value.int .u8 0).cells (n * 1), ?_, fun W => ?_⟩
  · intro j hj
    simp only [madeCells, Value.cells]
    rw [Array.getElem?_map, Array.getElem?_range, if_pos (by omega)]
    simp [Nat.mod_one]
  · have := run_make (P := Try.prog) W 43 5 i0 (.int .u8 0) Try.underlying43 hi hz0 .i64 .i64 n n (by omega) (by omega) (by rw [hz2]; omega) (by omega)
    rw [hz1] at this
    exact this
theorem convG (W : World) (g n : Nat) (ns : List Int) (hn : ns.length = n) (hc : ∀ j, j < n → W.cell? ⟨g, j, none⟩ = some (.int .u8 (ns.getD j 0))) :
    (convert 43 9 (.slice (some ⟨g, 0, none⟩) n n)).run Try.prog W = .ok (.string (mkS ns)) W := by
  rw [run_convert_bytes_string W 43 9 5 _ n n Try.underlying43 Try.underlying5 Try.underlying9]
  refine run_bytesToString W ⟨g, 0, none⟩ n n ns ?_
  have := run_loadCells_list (P := Try.prog) W ⟨g, 0, none⟩ (ns.map (Value.int .u8)) (by
    intro j v hv
    rw [Addr.add_mid, Nat.zero_add]
    rw [List.getElem?_map] at hv
    obtain ⟨m, hm, rfl⟩ := Option.map_eq_some_iff.1 hv
    have hj : j < n := by rw [← hn]; exact (List.getElem?_eq_some_iff.1 hm).1
    rw [hc j hj, List.getD, hm]; rfl)
  rw [List.length_map, hn] at this
  exact this
def rvL (s : ByteArray) : List Int := (List.range s.size).map fun j => bt s (s.size - 1 - j)
theorem rvL_at (s : ByteArray) (j : Nat) (hj : j < s.size) : (rvL s)[j]? = some (bt s (s.size - 1 - j)) := by simp [rvL, hj]
set_option maxRecDepth 100000 in
set_option maxHeartbeats 4000000 in
theorem turned_core (s : ByteArray) (n : Nat) (hsn : s.size = n) (hn : (n : Int) ≤ 281474976710656) (C : Array Value) (hC : Hid (∀ j, j < n → C[j]? = some (.int .u8 0))) (mk : ∀ W : World, (Instr.makeSlice 43 (.int .i64 (n : Int)) (.int .i64 (n : Int))).run Try.prog W = .ok (.slice (some ⟨W.heap.size, 0, none⟩) n n) (W.alloc (.cells C 5))) (w : World) :
    Calls Try.prog 53 #[.string s] w fun e w' => e = .returned (.string (mkS (rvL s))) ∧ Below w.heap.size w w' := by
  go_enter Try.func53, Try.ntmps53
  go_wp2_with fail
  go_loopw [4] (fun i wr => ∃ k : Nat, k ≤ n ∧ i = .int .i64 k ∧ Below w.heap.size w wr ∧ Arr wr w.heap.size n (fun j => .int .u8 (if j < k then bt s (n - 1 - j) else 0)))
    (fun i _ => n - (intOf i).toNat)
  case atStart =>
    refine ⟨0, by omega, rfl, by go_grown, ?_⟩
    exact (Arr.new _ _ _ _ (by simp) _ n hC.out).congr (by intro j hj; rw [if_neg (by omega)])
  case round =>
    clear mk hC
    obtain ⟨k, hk, rfl, hB, hA⟩ := hrel
    by_cases hlt : k < n
    · have k0 : (0 : Int) ≤ (k : Int) := by omega
      have kn : (k : Int) < (n : Int) := by omega
      obtain ⟨q, hq⟩ : ∃ q : Nat, (n : Int) - 1 - (k : Int) = (q : Int) := ⟨n - 1 - k, by omega⟩
      have qe : q = n - 1 - k := by omega
      have I := fun W => idxS s q (by omega) W
      have ra := hA.c k hlt
      have za := hA.z k hlt
      have st : Arr (wr.setCell ⟨w.heap.size, k, none⟩ (.int .u8 (bt s q))) w.heap.size n (fun j => .int .u8 (if j < k + 1 then bt s (n - 1 - j) else 0)) := by
        refine (hA.set k hlt _).congr ?_
        intro j hj
        by_cases h : j = k
        · subst h; rw [if_pos rfl, if_pos (by omega), qe]
        · rw [if_neg h]
          by_cases h2 : j < k
          · rw [if_pos h2, if_pos (by omega)]
          · rw [if_neg h2, if_neg (by omega)]
      have sB : Below w.heap.size w (wr.setCell ⟨w.heap.size, k, none⟩ (.int .u8 (bt s q))) := hB.setCell (by show _ ≤ w.heap.size; omega) _
      clear qe hA hB
      go_wp2_with fail
      exact ⟨⟨k + 1, by omega, by go_num, sB, st⟩, by simp [intOf]; omega⟩
    · have en : k = n := by omega
      subst en
      have cv := convG wr w.heap.size k (rvL s) (by simp [rvL, hsn]) (by intro j hj; rw [hA.c j hj, if_pos hj, List.getD, rvL_at s j (by omega), hsn]; rfl)
      clear hA
      generalize hT : mkS (rvL s) = T at cv
      have HT : Hid (mkS (rvL s) = T) := hT
      clear hT
      go_wp2_with fail
      go_ret
      exact ⟨by rw [HT.out]; rfl, hB⟩
theorem turned_any (s : ByteArray) (hn : (s.size : Int) ≤ 281474976710656) (w : World) :
    Calls Try.prog 53 #[.string s] w fun e w' => e = .returned (.string (mkS (rvL s))) ∧ Below w.heap.size w w' := by
  obtain ⟨C, hC, mk⟩ := madeN s.size hn
  exact turned_core s s.size rfl hn C hC mk w
theorem rv_lt (N : Int) : rvL (mkS (ltL N)) = bgL N := by
  have sz : (mkS (ltL N)).size = 32 := by rw [mkS_size]; simp [ltL]
  have at1 := rvL_at (mkS (ltL N))
  have b1 := fun i (hi : i < 32) => mkS_bt (ltL N) i _ (ltL_at N i hi) (byt_bd N (31 - i)).1 (byt_bd N (31 - i)).2
  have len : (rvL (mkS (ltL N))).length = 32 := by unfold rvL; rw [List.length_map, List.length_range, sz]
  generalize mkS (ltL N) = K at *
  apply List.ext_getElem?
  intro i
  by_cases hi : i < 32
  · rw [at1 i (by rw [sz]; exact hi), bgL_at N i hi, sz, show 32 - 1 - i = 31 - i by omega, b1 (31 - i) (by omega), show 31 - (31 - i) = i by omega]
  · rw [List.getElem?_eq_none (by rw [len]; omega), List.getElem?_eq_none (by simp [bgL]; omega)]
set_option maxHeartbeats 1000000 in
theorem refBig_core (N : Int) (K G : ByteArray) (C19 : ∀ W, Calls Try.prog 19 #[nv N] W fun e w' => e = .returned (.string K) ∧ Below W.heap.size W w') (C40 : ∀ W, Calls Try.prog 53 #[.string K] W fun e w' => e = .returned (.string G) ∧ Below W.heap.size W w') (w : World) :
    Calls Try.prog 17 #[nv N] w fun e w' => e = .returned (.string G) ∧ Below w.heap.size w w' := by
  go_enter Try.func17, Try.ntmps17
  go_wp2_with fail
  refine (C19 _).mono ?_
  rintro e w1 ⟨rfl, hb1⟩
  have hB1 : Below w.heap.size w w1 := Below.trans (by go_grown) (hb1.mono (by go_size))
  clear hb1
  go_wp2_with fail
  refine (C40 _).mono ?_
  rintro e w2 ⟨rfl, hb2⟩
  have hB2 := hB1.trans (hb2.mono hB1.size)
  clear hb2 hB1
  go_wp2_with fail
  go_ret
  exact ⟨rfl, hB2⟩
theorem refBig_any (N : Int) (w : World) : Calls Try.prog 17 #[nv N] w fun e w' => e = .returned (.string (mkS (bgL N))) ∧ Below w.heap.size w w' := by
  refine refBig_core N (mkS (ltL N)) (mkS (bgL N)) (fun W => refLittle_any N W) (fun W => ?_) w
  have sz : (mkS (ltL N)).size = 32 := by rw [mkS_size]; simp [ltL]
  have := turned_any (mkS (ltL N)) (by rw [sz]; omega) W
  rw [rv_lt] at this
  exact this
end Go.Proofs.Ytpigofooblmdhaa
set_option maxRecDepth 100000
namespace Go.Proofs.Ytpigofooblmdhaa
open Go.RowKit
theorem pn_first (wd : Nat) (g : Nat → Int) (b : Nat) : pn wd g (b + 1) = g 0 * 2 ^ (wd * b) + pn wd (sh g 1) b := by
  have := pn_add wd g 1 b
  rw [Nat.add_comm 1 b] at this
  rw [this]
  show (0 * 2 ^ wd + g 0) * _ + _ = _
  rw [Int.zero_mul, Int.zero_add]
def pl (f : Nat → Int) : Nat → Nat → Int
  | 0, _ => 0
  | k + 1, j => if j = k / 8 then pl f k j + f k * 2 ^ (8 * (k % 8)) else pl f k j
theorem pl_is (f : Nat → Int) : ∀ k j, pl f k j = if k ≤ 8 * j then 0 else if k ≤ 8 * j + 8 then pn 8 (fun i => f (k - 1 - i)) (k - 8 * j) else pn 8 (fun i => f (8 * j + 7 - i)) 8 := by
  intro k
  induction k with
  | zero => intro j; simp [pl]
  | succ k ih =>
    intro j
    have hi := ih j
    show (if j = k / 8 then pl f k j + f k * 2 ^ (8 * (k % 8)) else pl f k j) = _
    by_cases c : j = k / 8
    · rw [if_pos c, hi, if_neg (show ¬ k + 1 ≤ 8 * j by omega), if_pos (show k + 1 ≤ 8 * j + 8 by omega)]
      have e : k + 1 - 8 * j = (k - 8 * j) + 1 := by omega
      rw [e, pn_first 8 (fun i => f (k + 1 - 1 - i)) (k - 8 * j)]
      have e2 : (fun i => f (k + 1 - 1 - i)) 0 = f k := by simp
      have e3 : sh (fun i => f (k + 1 - 1 - i)) 1 = fun i => f (k - 1 - i) := by funext i; unfold sh; simp only; congr 1; omega
      rw [e3, show k - 8 * j = k % 8 by omega]
      show _ = f (k + 1 - 1 - 0) * _ + _
      rw [show k + 1 - 1 - 0 = k by omega]
      by_cases c2 : k ≤ 8 * j
      · rw [if_pos c2, show k % 8 = 0 by omega]
        simp [pn]
      · rw [if_neg c2, if_pos (show k ≤ 8 * j + 8 by omega), Int.add_comm]
    · rw [if_neg c, hi]
      by_cases c2 : k + 1 ≤ 8 * j
      · rw [if_pos c2, if_pos (by omega)]
      · rw [if_neg c2]
        by_cases c3 : k ≤ 8 * j
        · omega
        · rw [if_neg c3, if_neg (show ¬ k + 1 ≤ 8 * j + 8 by omega)]
          by_cases c4 : k ≤ 8 * j + 8
          · have ek : k = 8 * j + 8 := by omega
            rw [if_pos c4, ek, show 8 * j + 8 - 8 * j = 8 by omega]
            rfl
          · rw [if_neg c4]
theorem pl_lim (f : Nat → Int) (hf : ∀ i, 0 ≤ f i ∧ f i < 2 ^ 8) (j : Nat) (hj : j < 4) : pl f 32 j = lim (pn 8 (fun i => f (31 - i)) 32) j := by
  have h := pb_lim 8 8 (fun i => f (31 - i)) (by omega) (by omega) (fun i => hf _) j hj
  rw [show (4 * 8 : Nat) = 32 from rfl] at h
  have e : j = 0 ∨ j = 1 ∨ j = 2 ∨ j = 3 := by omega
  rw [← h, pb_is 8 8 _ (by omega) 32 j hj (by omega), pl_is]
  rcases e with rfl | rfl | rfl | rfl <;> rfl
theorem pl_bd (f : Nat → Int) (hf : ∀ i, 0 ≤ f i ∧ f i < 2 ^ 8) (k : Nat) : 0 ≤ pl f k (k / 8) ∧ pl f k (k / 8) < 2 ^ (8 * (k % 8)) := by
  rw [pl_is]
  by_cases c : k ≤ 8 * (k / 8)
  · rw [if_pos c]; exact ⟨Int.le_refl _, Int.pow_pos (by omega)⟩
  · rw [if_neg c, if_pos (show k ≤ 8 * (k / 8) + 8 by omega), show k - 8 * (k / 8) = k % 8 by omega]
    exact ⟨pn_nn 8 _ (fun i => (hf _).1) _, pn_lt 8 _ (fun i => hf _) _⟩
theorem or_up (x d : Int) (r : Nat) (hr : r < 8) (x0 : 0 ≤ x) (x1 : x < 2 ^ (8 * r)) (d0 : 0 ≤ d) (d1 : d < 256) :
    bits .or .u64 x (IntKind.u64.wrap (d * 2 ^ (8 * r))) = x + d * 2 ^ (8 * r) := by
  by_cases c : r = 0
  · subst c
    have hx : x = 0 := by simp at x1; omega
    subst hx
    have w : IntKind.u64.wrap (d * 2 ^ (8 * 0)) = d := by rw [IntKind.wrap_u64]; simp; omega
    rw [w]
    have b := bits_or_u64_nat 0 d.toNat (by omega) (by omega)
    rw [Int.toNat_of_nonneg d0] at b
    have e : bits .or .u64 0 d = d := by
      have : ((0 : Nat) : Int) = 0 := rfl
      rw [← this, b]
      simp; omega
    rw [e]; simp
  · have p : (0 : Int) < 2 ^ (64 - 8 * r) := Int.pow_pos (by omega)
    have sp : (2 : Int) ^ (8 * r) * 2 ^ (64 - 8 * r) = 18446744073709551616 := pow_split (8 * r) (by omega)
    have h0 : 0 ≤ x * 2 ^ (64 - 8 * r) := Int.mul_nonneg x0 (Int.le_of_lt p)
    have h1 : x * 2 ^ (64 - 8 * r) < 18446744073709551616 := by rw [← sp]; exact Int.mul_lt_mul_of_pos_right x1 p
    have j := or_join (x * 2 ^ (64 - 8 * r)) d (64 - 8 * r) (by omega) h0 h1 d0
    rw [Int.mul_ediv_cancel _ (Int.ne_of_gt p), show 64 - (64 - 8 * r) = 8 * r by omega] at j
    have hd : d % 2 ^ (64 - 8 * r) = d := by
      refine Int.emod_eq_of_lt d0 ?_
      have : (2 : Nat) ^ 8 ≤ 2 ^ (64 - 8 * r) := Nat.pow_le_pow_right (by omega) (by omega)
      have q : ((2 ^ 8 : Nat) : Int) ≤ ((2 ^ (64 - 8 * r) : Nat) : Int) := Int.ofNat_le.2 this
      have e1 : ((2 ^ 8 : Nat) : Int) = 256 := rfl
      have e2 : ((2 ^ (64 - 8 * r) : Nat) : Int) = 2 ^ (64 - 8 * r) := by push_cast; rfl
      omega
    rw [hd] at j
    exact j
set_option maxRecDepth 100000 in
set_option maxHeartbeats 4000000 in
theorem refFromLittle_ok (s : ByteArray) (hs : s.size = 32) (w : World) :
    Calls Try.prog 13 #[.string s] w fun e w' => e = .returned (.tuple #[.agg #[.int .u64 (pl (bt s) 32 0), .int .u64 (pl (bt s) 32 1), .int .u64 (pl (bt s) 32 2), .int .u64 (pl (bt s) 32 3)], .int .i64 0]) ∧ Below w.heap.size w w' := by
  have LE := fun W => sized_any s 32 (by rw [hs]; decide) W
  have le0 : lenE (s.size : Int) 32 = 0 := by rw [hs]; decide
  rw [le0] at LE
  go_enter Try.func13, Try.ntmps13
  go_wp2_with (go_at_call 51; refine (LE _).mono ?_; rintro e w1 ⟨rfl, rfl⟩)
  go_loopw [6] (fun i wr => ∃ k : Nat, k ≤ 32 ∧ i = .int .i64 k ∧ Below w.heap.size w wr ∧ Arr wr w.heap.size 4 (fun _ => .int .u64 0) ∧ Arr wr (w.heap.size + 1) 4 (fun j => .int .u64 (pl (bt s) k j)))
    (fun i _ => 32 - (intOf i).toNat)
  case atStart => exact ⟨0, by omega, rfl, by go_grown, Arr.mk4 (by simp [go_sem]) (by simp [go_sem]) (by simp [go_sem]) (by simp [go_sem]) (by simp [go_sem]) (by simp [go_sem]) (by simp [go_sem]) (by simp [go_sem]), Arr.mk4 (by simp [go_sem, pl]) (by simp [go_sem, pl]) (by simp [go_sem, pl]) (by simp [go_sem, pl]) (by simp [go_sem]) (by simp [go_sem]) (by simp [go_sem]) (by simp [go_sem])⟩
  case round =>
    clear LE le0
    obtain ⟨k, hk, rfl, hB, hZ, hA⟩ := hrel
    by_cases hlt : k < 32
    · have k0 : (0 : Int) ≤ (k : Int) := by omega
      have k32 : (k : Int) < 32 := by omega
      obtain ⟨q, r, hq, hr, qe, re⟩ : ∃ q r : Nat, (k : Int) / 8 = (q : Int) ∧ (k : Int) % 8 = (r : Int) ∧ q = k / 8 ∧ r = k % 8 := ⟨k / 8, k % 8, by omega, by omega, rfl, rfl⟩
      have q0 : (0 : Int) ≤ (q : Int) := by omega
      have q4 : (q : Int) < 4 := by omega
      have r0 : (0 : Int) ≤ (r : Int) := by omega
      have r8 : (r : Int) < 8 := by omega
      have bb := bt_bd s k
      have I := fun W => idxS s k (by omega) W
      have pbd := pl_bd (bt s) (bt_8 s) k
      rw [← qe, ← re] at pbd
      have ou := or_up (pl (bt s) k q) (bt s k) r (by omega) pbd.1 pbd.2 bb.1 bb.2
      have ra := hA.c q (by omega)
      have za := hA.z q (by omega)
      have tn : (8 * (r : Int)).toNat = 8 * r := by omega
      have st : Arr ((wr.setCell ⟨w.heap.size + 1, q, none⟩ (.int .u64 (pl (bt s) k q + bt s k * 2 ^ (8 * r)))).drew) (w.heap.size + 1) 4 (fun j => .int .u64 (pl (bt s) (k + 1) j)) := by
        refine ((hA.set q (by omega) _).congr ?_).drew
        intro j hj
        show _ = Value.int .u64 (if j = k / 8 then pl (bt s) k j + bt s k * 2 ^ (8 * (k % 8)) else pl (bt s) k j)
        by_cases h : j = q
        · subst h; rw [if_pos rfl, if_pos qe, re]
        · rw [if_neg h, if_neg (by omega)]
      have sz : Arr ((wr.setCell ⟨w.heap.size + 1, q, none⟩ (.int .u64 (pl (bt s) k q + bt s k * 2 ^ (8 * r)))).drew) w.heap.size 4 (fun _ => .int .u64 0) := (hZ.other (by omega) _).drew
      have sB : Below w.heap.size w ((wr.setCell ⟨w.heap.size + 1, q, none⟩ (.int .u64 (pl (bt s) k q + bt s k * 2 ^ (8 * r)))).drew) := (hB.setCell (by show _ ≤ w.heap.size + 1; omega) _).drew
      clear qe re pbd hA hZ hB
      go_wp2_with fail
      go_region
      go_wp2_with fail
      exact ⟨⟨k + 1, by omega, by go_num, sB, sz, st⟩, by simp [intOf]; omega⟩
    · have e32 : k = 32 := by omega
      subst e32
      have r1 := hA.c
      have r0 := hZ.c
      have z0 := hZ.z
      clear hA hZ
      go_wp2_with fail
      refine bodyPost_ret (v := .tuple #[.agg #[.int .u64 (pl (bt s) 32 0), .int .u64 (pl (bt s) 32 1), .int .u64 (pl (bt s) 32 2), .int .u64 (pl (bt s) 32 3)], .int .i64 0]) (by simp [results, Try.results13, go_sem, r0]) rfl ⟨rfl, ?_⟩
      go_grown
end Go.Proofs.Ytpigofooblmdhaa
namespace Go.Proofs.Ytpigofooblmdhaa
def ps (g : Nat → Int) : Nat → Int
  | 0 => 0
  | k + 1 => ps g k + g k * 18446744073709551616 ^ k
theorem ps_congr {f g : Nat → Int} : ∀ n, (∀ j, j < n → f j = g j) → ps f n = ps g n := by
  intro n
  induction n with
  | zero => intro _; rfl
  | succ n ih => intro h; simp only [ps]; rw [ih (fun j hj => h j (by omega)), h n (by omega)]
theorem ps4 (g : Nat → Int) : ps g 4 = V4 (g 0) (g 1) (g 2) (g 3) := by simp only [ps, V4]; omega
theorem ps5 (g : Nat → Int) : ps g 5 = V4 (g 0) (g 1) (g 2) (g 3) + g 4 * 115792089237316195423570985008687907853269984665640564039457584007913129639936 := by simp only [ps, V4]; omega
def fr (f : Nat → Int) (i : Nat) : Nat → Int := fun j => f (i + j)
def Pt (f : Nat → Int) : Prop := ∀ j, 0 ≤ f j ∧ f j < 18446744073709551616
theorem Pt.upd {f : Nat → Int} (h : Pt f) (k : Nat) (v : Int) (v0 : 0 ≤ v) (v1 : v < 18446744073709551616) : Pt (upd f k v) := fun j => by
  unfold Go.Proofs.Ytpigofooblmdhaa.upd; split
  · exact ⟨v0, v1⟩
  · exact h j
theorem ps_nn {g : Nat → Int} (h : ∀ j, 0 ≤ g j ∧ g j < 18446744073709551616) : ∀ k, 0 ≤ ps g k ∧ ps g k < 18446744073709551616 ^ k := by
  intro k
  induction k with
  | zero => simp [ps]
  | succ k ih =>
    have h0 := h k
    have p : (0 : Int) < 18446744073709551616 ^ k := Int.pow_pos (by omega)
    simp only [ps]
    have e : (18446744073709551616 : Int) ^ (k + 1) = 18446744073709551616 ^ k * 18446744073709551616 := Int.pow_succ ..
    have a : 0 ≤ g k * 18446744073709551616 ^ k := Int.mul_nonneg h0.1 (by omega)
    have b : g k * 18446744073709551616 ^ k ≤ 18446744073709551615 * 18446744073709551616 ^ k := Int.mul_le_mul_of_nonneg_right (by omega) (by omega)
    omega
def SubI (f0 f : Nat → Int) (M q : Int) (i k : Nat) (c b : Int) : Prop :=
  Pt f ∧ 0 ≤ c ∧ c < 18446744073709551616 ∧ 0 ≤ b ∧ b ≤ 1 ∧ (∀ j, ¬ (i ≤ j ∧ j < i + k) → f j = f0 j) ∧
    ps (fr f0 i) k - q * ps (lim M) k = ps (fr f i) k - (c + b) * 18446744073709551616 ^ k
theorem fr_upd_lt (f : Nat → Int) (i k : Nat) (v : Int) : ps (fr (upd f (i + k) v) i) k = ps (fr f i) k := by
  refine ps_congr k fun j hj => ?_
  unfold fr upd; rw [if_neg (by omega)]
theorem SubI.start {f0 : Nat → Int} (h : Pt f0) (M q : Int) (i : Nat) : SubI f0 f0 M q i 0 0 0 :=
  ⟨h, by omega, by omega, by omega, by omega, fun _ _ => rfl, by simp [ps]⟩
theorem SubI.step {f0 f : Nat → Int} {M q : Int} {i k : Nat} {c b : Int} (h : SubI f0 f M q i k c b) {hi lo s d r b' : Int}
    (e1 : q * lim M k = hi * 18446744073709551616 + lo) (e2 : lo + c + 0 = s + 18446744073709551616 * d) (e3 : f (i + k) - s - b = r - 18446744073709551616 * b')
    (r0 : 0 ≤ r) (r1 : r < 18446744073709551616) (hb0 : 0 ≤ b') (hb1 : b' ≤ 1) (c0 : 0 ≤ hi + d) (c1 : hi + d < 18446744073709551616) :
    SubI f0 (upd f (i + k) r) M q i (k + 1) (hi + d) b' := by
  obtain ⟨p, _, _, _, _, fx, e⟩ := h
  refine ⟨p.upd _ _ r0 r1, c0, c1, hb0, hb1, ?_, ?_⟩
  · intro j hj
    unfold upd; rw [if_neg (by omega)]; exact fx j (by omega)
  · have f00 : fr f0 i k = f (i + k) := (fx (i + k) (by omega)).symm
    have f01 : fr (upd f (i + k) r) i k = r := by unfold fr upd; rw [if_pos rfl]
    simp only [ps, f00, f01, fr_upd_lt, Int.pow_succ]
    generalize (18446744073709551616 : Int) ^ k = P at *
    have t1 : f (i + k) * P - q * (lim M k * P) = (r + b + c) * P - (hi + d + b') * (P * 18446744073709551616) := by
      rw [← Int.mul_assoc q, e1]
      have : f (i + k) = r - 18446744073709551616 * b' + s + b := by omega
      rw [this]
      have : s = lo + c - 18446744073709551616 * d := by omega
      rw [this]
      grind
    have t2 : q * (ps (lim M) k + lim M k * P) = q * ps (lim M) k + q * (lim M k * P) := Int.mul_add ..
    have t3 : (r + b + c) * P = r * P + (c + b) * P := by grind
    omega
def AddI (f0 f : Nat → Int) (M : Int) (i k : Nat) (d : Int) : Prop :=
  Pt f ∧ 0 ≤ d ∧ d ≤ 1 ∧ (∀ j, ¬ (i ≤ j ∧ j < i + k) → f j = f0 j) ∧
    ps (fr f0 i) k + ps (lim M) k = ps (fr f i) k + d * 18446744073709551616 ^ k
theorem AddI.start {f0 : Nat → Int} (h : Pt f0) (M : Int) (i : Nat) : AddI f0 f0 M i 0 0 :=
  ⟨h, by omega, by omega, fun _ _ => rfl, by simp [ps]⟩
theorem AddI.step {f0 f : Nat → Int} {M : Int} {i k : Nat} {d : Int} (h : AddI f0 f M i k d) {s d' : Int}
    (e : f (i + k) + lim M k + d = s + 18446744073709551616 * d') (s0 : 0 ≤ s) (s1 : s < 18446744073709551616) (d0 : 0 ≤ d') (d1 : d' ≤ 1) :
    AddI f0 (upd f (i + k) s) M i (k + 1) d' := by
  obtain ⟨p, _, _, fx, e0⟩ := h
  refine ⟨p.upd _ _ s0 s1, d0, d1, ?_, ?_⟩
  · intro j hj
    unfold upd; rw [if_neg (by omega)]; exact fx j (by omega)
  · have f00 : fr f0 i k = f (i + k) := (fx (i + k) (by omega)).symm
    have f01 : fr (upd f (i + k) s) i k = s := by unfold fr upd; rw [if_pos rfl]
    simp only [ps, f00, f01, fr_upd_lt, Int.pow_succ]
    generalize (18446744073709551616 : Int) ^ k = P at *
    have t : f (i + k) * P + lim M k * P + d * P = s * P + d' * (P * 18446744073709551616) := by
      rw [← Int.add_mul, ← Int.add_mul, e]; grind
    omega
def BackI (g f : Nat → Int) (M X : Int) (i : Nat) (b : Int) : Prop :=
  Pt f ∧ 0 ≤ b ∧ b ≤ 1 ∧ (∀ j, ¬ (i ≤ j ∧ j < i + 5) → f j = g j) ∧ ∃ t : Int, 0 ≤ t ∧ X - t * M = ps (fr f i) 5 - b * 18446744073709551616 ^ 5 ∧ X - t * M < M
theorem lim_ps (M : Int) (h0 : 0 ≤ M) (h1 : M < top256) : ps (lim M) 4 = M := by rw [ps4]; exact V4_lim M h0 h1
theorem SubI.done {f0 f : Nat → Int} {M q : Int} {i : Nat} {c b : Int} (h : SubI f0 f M q i 4 c b) (hM : 0 ≤ M) (hM' : M < top256) (hq : 0 ≤ q) (X : Int) (hX : X = ps (fr f0 i) 5) (hqt : X < (q + 1) * M) {r b' : Int}
    (e : f (i + 4) - c - b = r - 18446744073709551616 * b') (r0 : 0 ≤ r) (r1 : r < 18446744073709551616) (hb0 : 0 ≤ b') (hb1 : b' ≤ 1) : BackI f0 (upd f (i + 4) r) M X i b' := by
  obtain ⟨p, _, _, _, _, fx, e0⟩ := h
  refine ⟨p.upd _ _ r0 r1, hb0, hb1, ?_, q, hq, ?_, ?_⟩
  · intro j hj
    unfold upd; rw [if_neg (by omega)]; exact fx j (by omega)
  rotate_left
  · have : (q + 1) * M = q * M + M := by grind
    omega
  · have f00 : fr f0 i 4 = f (i + 4) := (fx (i + 4) (by omega)).symm
    have f01 : fr (upd f (i + 4) r) i 4 = r := by unfold fr upd; rw [if_pos rfl]
    rw [lim_ps M hM hM'] at e0
    rw [hX]
    have s1 : ps (fr f0 i) 5 = ps (fr f0 i) 4 + fr f0 i 4 * 18446744073709551616 ^ 4 := rfl
    have s2 : ps (fr (upd f (i + 4) r) i) 5 = ps (fr (upd f (i + 4) r) i) 4 + fr (upd f (i + 4) r) i 4 * 18446744073709551616 ^ 4 := rfl
    rw [s1, s2, f00, f01, fr_upd_lt, show (18446744073709551616 : Int) ^ 5 = 18446744073709551616 ^ 4 * 18446744073709551616 from rfl]
    generalize (18446744073709551616 : Int) ^ 4 = P at *
    have t : f (i + 4) * P = r * P + (c + b) * P - b' * (P * 18446744073709551616) := by
      have : f (i + 4) = r - 18446744073709551616 * b' + c + b := by omega
      rw [this]; grind
    omega
theorem AddI.done {g f0 f : Nat → Int} {M X : Int} {i : Nat} {d : Int} (h : AddI f0 f M i 4 d) (hB : BackI g f0 M X i 1) (hX : 0 ≤ X) (hM : 0 ≤ M) (hM' : M < top256) {r d' : Int}
    (e : f (i + 4) + 0 + d = r + 18446744073709551616 * d') (r0 : 0 ≤ r) (r1 : r < 18446744073709551616) (d0 : 0 ≤ d') (d1 : d' ≤ 1) :
    BackI g (upd f (i + 4) r) M X i (1 - d') ∧ ps (fr (upd f (i + 4) r) i) 5 - (1 - d') * 18446744073709551616 ^ 5 = ps (fr f0 i) 5 - 1 * 18446744073709551616 ^ 5 + M := by
  obtain ⟨p, _, _, fx, e0⟩ := h
  obtain ⟨p0, _, _, gx, t, t0, et, lt⟩ := hB
  have key : ps (fr (upd f (i + 4) r) i) 5 - (1 - d') * 18446744073709551616 ^ 5 = ps (fr f0 i) 5 - 1 * 18446744073709551616 ^ 5 + M := by
    have f00 : fr f0 i 4 = f (i + 4) := (fx (i + 4) (by omega)).symm
    have f01 : fr (upd f (i + 4) r) i 4 = r := by unfold fr upd; rw [if_pos rfl]
    rw [lim_ps M hM hM'] at e0
    have s1 : ps (fr f0 i) 5 = ps (fr f0 i) 4 + fr f0 i 4 * 18446744073709551616 ^ 4 := rfl
    have s2 : ps (fr (upd f (i + 4) r) i) 5 = ps (fr (upd f (i + 4) r) i) 4 + fr (upd f (i + 4) r) i 4 * 18446744073709551616 ^ 4 := rfl
    rw [s1, s2, f00, f01, fr_upd_lt, show (18446744073709551616 : Int) ^ 5 = 18446744073709551616 ^ 4 * 18446744073709551616 from rfl]
    generalize (18446744073709551616 : Int) ^ 4 = P at *
    have t : f (i + 4) * P + d * P = r * P + d' * (P * 18446744073709551616) := by
      rw [← Int.add_mul]
      have : f (i + 4) + d = r + 18446744073709551616 * d' := by omega
      rw [this]; grind
    have u : (1 - d') * (P * 18446744073709551616) = P * 18446744073709551616 - d' * (P * 18446744073709551616) := by grind
    omega
  refine ⟨⟨p.upd _ _ r0 r1, by omega, by omega, ?_, t - 1, ?_, ?_, ?_⟩, key⟩
  · intro j hj
    unfold upd; rw [if_neg (by omega), fx j (by omega)]; exact gx j hj
  · have b := (ps_nn (fun j => p0 (i + j)) 5).2
    have hh : X - t * M < 0 := by rw [et]; unfold fr; omega
    by_cases c : t = 0
    · subst c; omega
    · omega
  · have : (t - 1) * M = t * M - M := by grind
    omega
  · have b := (ps_nn (fun j => p0 (i + j)) 5).2
    have hh : X - t * M < 0 := by rw [et]; unfold fr; omega
    have : (t - 1) * M = t * M - M := by grind
    omega
def TI (U M : Int) (n : Nat) (f : Nat → Int) : Prop :=
  Pt f ∧ (∀ j, n + 4 ≤ j → j < 9 → f j = 0) ∧ ps (fr f n) 4 < M ∧ ps f 9 % M = U % M
theorem ps_add (g : Nat → Int) (a : Nat) : ∀ b, ps g (a + b) = ps g a + ps (fr g a) b * 18446744073709551616 ^ a := by
  intro b
  induction b with
  | zero => simp [ps]
  | succ b ih =>
    show ps g (a + b) + g (a + b) * 18446744073709551616 ^ (a + b) = ps g a + (ps (fr g a) b + g (a + b) * 18446744073709551616 ^ b) * 18446744073709551616 ^ a
    rw [ih, Int.pow_add]
    grind
theorem ps_zero (g : Nat → Int) : ∀ n, (∀ j, j < n → g j = 0) → ps g n = 0 := by
  intro n
  induction n with
  | zero => intro _; rfl
  | succ n ih => intro h; simp only [ps]; rw [ih (fun j hj => h j (by omega)), h n (by omega)]; omega
theorem BackI.done {g f : Nat → Int} {M X U : Int} {i : Nat} (hi : i < 5) (h : BackI g f M X i 0) (hX : X = ps (fr g i) 5) (hM : 0 < M) (hM' : M < top256) (hT : TI U M (i + 1) g) : TI U M i f := by
  obtain ⟨p, _, _, fx, t, t0, et, lt⟩ := h
  obtain ⟨pg, zg, _, eU⟩ := hT
  have e5 : ps (fr f i) 5 = X - t * M := by omega
  have n4 := ps_nn (fun j => p (i + j)) 4
  have n5 := ps_nn (fun j => p (i + j)) 5
  have s5 : ps (fr f i) 5 = ps (fr f i) 4 + f (i + 4) * 115792089237316195423570985008687907853269984665640564039457584007913129639936 := by rw [ps5, ps4]; rfl
  have p4 := p (i + 4)
  have n4' : 0 ≤ ps (fr f i) 4 := n4.1
  have z4 : f (i + 4) = 0 := by unfold top256 at hM'; omega
  refine ⟨p, ?_, ?_, ?_⟩
  · intro j h1 h2
    by_cases c : j = i + 4
    · rw [c]; exact z4
    · rw [fx j (by omega)]; exact zg j (by omega) h2
  · rw [z4] at s5; omega
  · rw [← eU]
    have a1 := ps_add f i 5
    have a2 := ps_add g i 5
    have a3 := ps_add f (i + 5) (4 - i)
    have a4 := ps_add g (i + 5) (4 - i)
    have c1 : ps f i = ps g i := ps_congr i fun j hj => fx j (by omega)
    have c2 : ps (fr f (i + 5)) (4 - i) = ps (fr g (i + 5)) (4 - i) := ps_congr _ fun j hj => fx _ (by omega)
    rw [show i + 5 + (4 - i) = 9 by omega] at a3 a4
    rw [a3, a4, a1, a2, c1, c2, ← hX, e5]
    generalize (18446744073709551616 : Int) ^ i = P
    have : (X - t * M) * P = X * P - M * (t * P) := by grind
    rw [this, show ps g i + (X * P - M * (t * P)) + ps (fr g (i + 5)) (4 - i) * 18446744073709551616 ^ (i + 5) = (ps g i + X * P + ps (fr g (i + 5)) (4 - i) * 18446744073709551616 ^ (i + 5)) - M * (t * P) by omega]
    exact Int.sub_mul_emod_self_left ..
theorem TI.end {U M : Int} {f : Nat → Int} (h : TI U M 0 f) (hM : 0 < M) : V4 (f 0) (f 1) (f 2) (f 3) = U % M := by
  obtain ⟨p, z, l, e⟩ := h
  have a := ps_add f 4 5
  have c : ps (fr f 4) 5 = 0 := ps_zero _ 5 fun j hj => z (4 + j) (by omega) (by omega)
  have f0 : fr f 0 = f := by funext j; unfold fr; rw [Nat.zero_add]
  rw [f0] at l
  rw [show 4 + 5 = 9 from rfl, c, Int.zero_mul, Int.add_zero] at a
  rw [← ps4, ← e, a]
  exact (Int.emod_eq_of_lt (ps_nn p 4).1 l).symm
theorem guess_ge {X M q u4 u3 rest m3 mr : Int} (hX : X = (u4 * 18446744073709551616 + u3) * 6277101735386680763835789423207666416102355444464034512896 + rest) (hr : rest < 6277101735386680763835789423207666416102355444464034512896)
    (hM : M = m3 * 6277101735386680763835789423207666416102355444464034512896 + mr) (hmr : 0 ≤ mr) (hm3 : 0 < m3) (hq : q = (u4 * 18446744073709551616 + u3) / m3) (hq0 : 0 ≤ q) : X < (q + 1) * M := by
  have a : u4 * 18446744073709551616 + u3 < (q + 1) * m3 := by rw [hq]; exact Int.lt_ediv_add_one_mul_self _ hm3
  have b : (q + 1) * M = (q + 1) * m3 * 6277101735386680763835789423207666416102355444464034512896 + (q + 1) * mr := by rw [hM]; grind
  have c : 0 ≤ (q + 1) * mr := Int.mul_nonneg (by omega) hmr
  rw [b]
  generalize (q + 1) * m3 = Y at *
  omega
end Go.Proofs.Ytpigofooblmdhaa
