/- Texts joined: A6, A8, A9, A7, V1. -/
import Derived.BigQuiet
import Derived.Lib.QuietBelow
import Derived.Test.YtogkijjmimaccaaJ7
import Derived.Test.YtogkijjmimaccaaJ2
/- Blocks: sums, bytes become, rows turned, columns mixed, as words. -/
set_option linter.all false
set_option maxRecDepth 100000
namespace Go.Proofs.Ytogkijjmimaccaa
open Go.RowKit Go.Sort Lin
/-- Four words. -/
def bv (x : Nat → Int) : Value := .agg #[.int .u32 (x 0), .int .u32 (x 1), .int .u32 (x 2), .int .u32 (x 3)]
theorem h4_at (x : Nat → Int) (j : Nat) (hj : j < 4) : (#[.int .u32 (x 0), .int .u32 (x 1), .int .u32 (x 2), .int .u32 (x 3)] : Array Value)[j]? = some (.int .u32 (x j)) := by
  have : j = 0 ∨ j = 1 ∨ j = 2 ∨ j = 3 := by omega
  rcases this with rfl | rfl | rfl | rfl <;> rfl
theorem z4_at (j : Nat) (hj : j < 4) : (#[.int .u32 0, .int .u32 0, .int .u32 0, .int .u32 0] : Array Value)[j]? = some (.int .u32 0) := h4_at (fun _ => 0) j hj
theorem idx68 (A : Array Value) (k : Nat) (v : Int) (hk : k < 4) (hv : A[k]? = some (.int .u32 v)) (W : World) : (Instr.index 91 (.agg A) (.int .i64 (k : Int))).run Try.prog W = .ok (.int .u32 v) W := by
  have h0 : (0 : Int) ≤ (k : Int) ∧ (k : Int) < ((4 : Nat) : Int) := by omega
  have hs : (Go.sizeOf 76).run Try.prog W = .ok 1 W := by kernel_rfl
  simp only [Instr.index, asIntOf, Sem.run_bind, Sem.run_pure, Result.andThen_ok, run_underlying Try.underlying91]
  rw [Sem.run_ite, if_pos h0]
  simp only [Sem.run_bind, hs, Result.andThen_ok, Int.toNat_natCast, Nat.mul_one]
  have ha : (isAgg 76).run Try.prog W = .ok false W := by kernel_rfl
  simp [part, Sem.run_bind, ha, hv]
/-- The first k are done. -/
def mid (y x : Nat → Int) (k : Nat) (j : Nat) : Value := .int .u32 (if j < k then y j else x j)
theorem mid_at {w : World} {b : Nat} {x y : Nat → Int} {k : Nat} (h : Arr w b 4 (mid y x k)) (hk : k < 4) : Arr (w.setCell ⟨b, k, none⟩ (.int .u32 (y k))) b 4 (mid y x (k + 1)) := by
  refine (h.set k hk _).congr ?_
  intro j hj
  unfold mid
  by_cases e : j = k
  · subst e; simp
  · simp only [if_neg e]
    by_cases e2 : j < k
    · rw [if_pos e2, if_pos (by omega)]
    · rw [if_neg e2, if_neg (by omega)]
theorem mid_end {w : World} {b : Nat} {x y : Nat → Int} (h : Arr w b 4 (mid y x 4)) : Arr w b 4 (fun j => .int .u32 (y j)) := h.congr fun j hj => by unfold mid; rw [if_pos hj]
theorem mid_0 (x y : Nat → Int) (j : Nat) : mid y x 0 j = .int .u32 (x j) := by unfold mid; rw [if_neg (by omega)]
/-- Four words put into a block. -/
def st4 (w : World) (b : Nat) (g : Nat → Int) : World := (((w.setCell ⟨b, 0, none⟩ (.int .u32 (g 0))).setCell ⟨b, 1, none⟩ (.int .u32 (g 1))).setCell ⟨b, 2, none⟩ (.int .u32 (g 2))).setCell ⟨b, 3, none⟩ (.int .u32 (g 3))
theorem Arr.st4 {w : World} {b : Nat} {f : Nat → Value} (h : Arr w b 4 f) (g : Nat → Int) : Arr (st4 w b g) b 4 (fun j => .int .u32 (g j)) :=
  ((((h.set 0 (by omega) _).set 1 (by omega) _).set 2 (by omega) _).set 3 (by omega) _).congr (by
    intro j hj
    have : j = 0 ∨ j = 1 ∨ j = 2 ∨ j = 3 := by omega
    rcases this with rfl | rfl | rfl | rfl <;> simp)
theorem Arr.st4o {w : World} {b b' n : Nat} {f : Nat → Value} (h : Arr w b n f) (hne : b' ≠ b) (g : Nat → Int) : Arr (Go.Proofs.Ytogkijjmimaccaa.st4 w b' g) b n f := (((h.other hne _).other hne _).other hne _).other hne _
theorem Bel.st4 {w W : World} (h : Below w.heap.size w W) {b : Nat} (hle : w.heap.size ≤ b) (g : Nat → Int) : Below w.heap.size w (Go.Proofs.Ytogkijjmimaccaa.st4 W b g) := Bel.st (Bel.st (Bel.st (Bel.st h hle _) hle _) hle _) hle _
theorem ko_st4 (W : World) (b : Nat) (g : Nat → Int) : KeepsOthers W (st4 W b g) := (((KeepsOthers.setCell _ _ _).trans (KeepsOthers.setCell _ _ _)).trans (KeepsOthers.setCell _ _ _)).trans (KeepsOthers.setCell _ _ _)
set_option maxHeartbeats 2000000 in
theorem plus_core (x y g : Nat → Int) (hg : ∀ k, k < 4 → bits .xor .u32 (x k) (y k) = g k) (w : World) :
    Calls Try.prog 63 #[bv x, bv y] w fun e w' => e = .returned (bv g) ∧ Below w.heap.size w w' := by
  unfold bv
  go_enter Try.func63, Try.ntmps63
  go_wp2_with fail
  go_loopw [8] (fun i wr => ∃ k : Nat, k ≤ 4 ∧ i = .int .i64 k ∧ Below w.heap.size w wr ∧ Arr wr w.heap.size 4 (mid g x k) ∧ Arr wr (w.heap.size + 1 + 1) 4 (fun _ => .int .u32 0)) (fun i _ => 4 - (intOf i).toNat)
  case atStart =>
    refine ⟨0, by omega, rfl, by go_grown, ?_, ?_⟩
    · exact (((Arr.new w _ _ _ rfl _ 4 (h4_at x)).al' _).al' _).congr fun j _ => (mid_0 _ _ j).symm
    · exact Arr.new _ _ _ _ (by simp) _ 4 z4_at
  case round =>
    obtain ⟨k, hk, rfl, hB, A0, A2⟩ := hrel
    by_cases hlt : k < 4
    · have k0 : (0 : Int) ≤ (k : Int) := by omega
      have k4 : (k : Int) < 4 := by omega
      have I := fun W => idx68 _ k _ hlt (h4_at y k hlt) W
      have c := A0.cv k hlt (.int .u32 (x k)) (by unfold mid; rw [if_neg (by omega)])
      have z := A0.z k hlt
      have hgk := hg k hlt
      clear hg
      go_wp2_with fail
      refine ⟨⟨k + 1, by omega, by go_num, Bel.st hB (by omega) _, mid_at A0 hlt, A2.other (by omega) _⟩, by simp [intOf]; omega⟩
    · have e : k = 4 := by omega
      rw [show ((k : Nat) : Int) = 4 by omega]
      subst e
      have A := mid_end A0
      have c0 := A.c 0 (by omega)
      have c1 := A.c 1 (by omega)
      have c2 := A.c 2 (by omega)
      have c3 := A.c 3 (by omega)
      have d := A2.c
      have z := A2.z
      have E := (A2.st4 g).c
      clear A0 hk hlt hg
      go_wp2_with fail
      refine bodyPost_ret (v := bv g) ?_ rfl ⟨rfl, Bel.st4 hB (by omega) g⟩
      simp only [Go.Proofs.Ytogkijjmimaccaa.st4] at E
      simp [bv, results, Try.results63, go_sem, E]
end Go.Proofs.Ytogkijjmimaccaa
/- Blocks: columns mixed. -/
set_option linter.all false
set_option maxRecDepth 100000
namespace Go.Proofs.Ytogkijjmimaccaa
open Go.RowKit Go.Sort Lin
set_option maxHeartbeats 2000000 in
theorem rotl_any (x s k : Int) (hs : 0 ≤ s) (hs2 : s < 32) (hk : bits .and .u64 (IntKind.u64.wrap k) 31 = s) (w : World) : Calls Try.prog 77 #[.int .u32 x, .int .i64 k] w fun e w' => e = .returned (.int .u32 (bits .or .u32 (x * 2 ^ s.toNat % 4294967296) (x / 2 ^ (32 - s).toNat))) ∧ w' = w := by
  go_enter Try.func77, Try.ntmps77
  go_wp2
  go_ret
  exact ⟨rfl, rfl⟩
set_option maxHeartbeats 2000000 in
theorem mixed_core (x p q r s g : Nat → Int)
    (C8 : ∀ k, k < 4 → ∀ W, Calls Try.prog 77 #[.int .u32 (x k), .int .i64 8] W fun e w' => e = .returned (.int .u32 (p k)) ∧ w' = W)
    (C16 : ∀ k, k < 4 → ∀ W, Calls Try.prog 77 #[.int .u32 (x k), .int .i64 16] W fun e w' => e = .returned (.int .u32 (q k)) ∧ w' = W)
    (C24 : ∀ k, k < 4 → ∀ W, Calls Try.prog 77 #[.int .u32 (x k), .int .i64 24] W fun e w' => e = .returned (.int .u32 (r k)) ∧ w' = W)
    (CD : ∀ k, k < 4 → ∀ W, Calls Try.prog 78 #[.int .u32 (bits .xor .u32 (x k) (p k))] W fun e w' => e = .returned (.int .u32 (s k)) ∧ w' = W)
    (hg : ∀ k, k < 4 → bits .xor .u32 (bits .xor .u32 (bits .xor .u32 (s k) (p k)) (q k)) (r k) = g k) (w : World) :
    Calls Try.prog 62 #[bv x] w fun e w' => e = .returned (bv g) ∧ Below w.heap.size w w' := by
  unfold bv
  go_enter Try.func62, Try.ntmps62
  go_wp2_with fail
  go_loopw [7] (fun i wr => ∃ k : Nat, k ≤ 4 ∧ i = .int .i64 k ∧ Below w.heap.size w wr ∧ Arr wr w.heap.size 4 (mid g x k) ∧ Arr wr (w.heap.size + 1) 4 (fun _ => .int .u32 0)) (fun i _ => 4 - (intOf i).toNat)
  case atStart =>
    refine ⟨0, by omega, rfl, by go_grown, ?_, ?_⟩
    · exact ((Arr.new w _ _ _ rfl _ 4 (h4_at x)).al' _).congr fun j _ => (mid_0 _ _ j).symm
    · exact Arr.new _ _ _ _ (by simp) _ 4 z4_at
  case round =>
    obtain ⟨k, hk, rfl, hB, A0, A2⟩ := hrel
    by_cases hlt : k < 4
    · have k0 : (0 : Int) ≤ (k : Int) := by omega
      have k4 : (k : Int) < 4 := by omega
      have I := fun W => idx68 _ k _ hlt (h4_at x k hlt) W
      have hgk := hg k hlt
      have c8 := C8 k hlt wr
      have c16 := C16 k hlt wr
      have c24 := C24 k hlt wr
      have cd := CD k hlt wr
      have c := A0.c k hlt
      have z := A0.z k hlt
      clear C8 C16 C24 CD hg
      go_wp2_with fail
      refine c8.mono ?_
      rintro e w1 ⟨rfl, rfl⟩
      go_wp2_with fail
      refine cd.mono ?_
      rintro e w2 ⟨rfl, rfl⟩
      go_wp2_with fail
      refine c16.mono ?_
      rintro e w3 ⟨rfl, rfl⟩
      go_wp2_with fail
      refine c24.mono ?_
      rintro e w4 ⟨rfl, rfl⟩
      clear c8 c16 c24 cd
      go_wp2_with fail
      refine ⟨⟨k + 1, by omega, by go_num, Bel.st hB (by omega) _, mid_at A0 hlt, A2.other (by omega) _⟩, by simp [intOf]; omega⟩
    · have e : k = 4 := by omega
      rw [show ((k : Nat) : Int) = 4 by omega]
      subst e
      have A := mid_end A0
      have c0 := A.c 0 (by omega)
      have c1 := A.c 1 (by omega)
      have c2 := A.c 2 (by omega)
      have c3 := A.c 3 (by omega)
      have d := A2.c
      have z := A2.z
      have E := (A2.st4 g).c
      clear A0 hk hlt hg C8 C16 C24 CD
      go_wp2_with fail
      refine bodyPost_ret (v := bv g) ?_ rfl ⟨rfl, Bel.st4 hB (by omega) g⟩
      simp only [Go.Proofs.Ytogkijjmimaccaa.st4] at E
      simp [bv, results, Try.results62, go_sem, E]
end Go.Proofs.Ytogkijjmimaccaa
/- Blocks: rows turned. -/
set_option linter.all false
set_option maxRecDepth 100000
namespace Go.Proofs.Ytogkijjmimaccaa
open Go.RowKit Go.Sort Lin
set_option maxHeartbeats 2000000 in
theorem turned_core (x g : Nat → Int) (hg : ∀ k, k < 4 → bits .or .u32 (bits .or .u32 (bits .or .u32 (bits .and .u32 (x k) 4278190080) (bits .and .u32 (x ((k + 1) % 4)) 16711680)) (bits .and .u32 (x ((k + 2) % 4)) 65280)) (bits .and .u32 (x ((k + 3) % 4)) 255) = g k) (w : World) :
    Calls Try.prog 61 #[bv x] w fun e w' => e = .returned (bv g) ∧ Below w.heap.size w w' := by
  unfold bv
  go_enter Try.func61, Try.ntmps61
  go_wp2_with fail
  go_loopw [5] (fun i wr => ∃ k : Nat, k ≤ 4 ∧ i = .int .i64 k ∧ Below w.heap.size w wr ∧ Arr wr w.heap.size 4 (fun j => .int .u32 (x j)) ∧ Arr wr (w.heap.size + 1) 4 (fun _ => .int .u32 0) ∧ Arr wr (w.heap.size + 1 + 1) 4 (mid g (fun _ => 0) k)) (fun i _ => 4 - (intOf i).toNat)
  case atStart =>
    refine ⟨0, by omega, rfl, by go_grown, ?_, ?_, ?_⟩
    · exact ((Arr.new w _ _ _ rfl _ 4 (h4_at x)).al' _).al' _
    · exact (Arr.new _ _ _ _ (by simp) _ 4 z4_at).al' _
    · exact (Arr.new _ _ _ _ (by simp) _ 4 z4_at).congr fun j _ => (mid_0 (fun _ => 0) g j).symm
  case round =>
    obtain ⟨k, hk, rfl, hB, A0, A1, A2⟩ := hrel
    by_cases hlt : k < 4
    · have k0 : (0 : Int) ≤ (k : Int) := by omega
      have k4 : (k : Int) < 4 := by omega
      obtain ⟨k1, e1⟩ : ∃ m, (k + 1) % 4 = m := ⟨_, rfl⟩
      obtain ⟨k2, e2⟩ : ∃ m, (k + 2) % 4 = m := ⟨_, rfl⟩
      obtain ⟨k3, e3⟩ : ∃ m, (k + 3) % 4 = m := ⟨_, rfl⟩
      have hgk := hg k hlt
      rw [e1, e2, e3] at hgk
      have f1 : ((k : Int) + 1) % 4 = (k1 : Int) := by omega
      have f2 : ((k : Int) + 2) % 4 = (k2 : Int) := by omega
      have f3 : ((k : Int) + 3) % 4 = (k3 : Int) := by omega
      have l1 : (k1 : Int) < 4 := by omega
      have l2 : (k2 : Int) < 4 := by omega
      have l3 : (k3 : Int) < 4 := by omega
      have r0 := fun ds os => cell_regrown (A0.c k hlt) ds os
      have r1 := fun ds os => cell_regrown (A0.c k1 (by omega)) ds os
      have r2 := fun ds os => cell_regrown (A0.c k2 (by omega)) ds os
      have r3 := fun ds os => cell_regrown (A0.c k3 (by omega)) ds os
      clear hg e1 e2 e3
      go_wp2_with fail
      refine wp_region_below_tail 27 (by kernel_rfl) (by kernel_rfl) ?_
      simp only [List.take_succ_cons, List.take_zero, List.drop_succ_cons, List.drop_zero]
      repeat (go_big_quiet_step (fail))
      refine wpQuiet_nil ?_
      intro w1 hw'
      obtain ⟨⟨dq, osq⟩, hw''⟩ := hw'
      have hb := below_of hw''
      clear hw'' r0 r1 r2 r3
      have hB1 := Bel.call hB hb
      have B0 := A0.to' hb
      have B1 := A1.to' hb
      have B2 := A2.to' hb
      clear A0 A1 A2 hB hb
      have c := B2.c k hlt
      have z := B2.z k hlt
      go_wp2_with fail
      refine ⟨⟨k + 1, by omega, by go_num, Bel.st hB1 (by omega) _, B0.other (by omega) _, B1.other (by omega) _, mid_at B2 hlt⟩, by simp [intOf]; omega⟩
    · have e : k = 4 := by omega
      rw [show ((k : Nat) : Int) = 4 by omega]
      subst e
      have A := mid_end A2
      have c0 := A.c 0 (by omega)
      have c1 := A.c 1 (by omega)
      have c2 := A.c 2 (by omega)
      have c3 := A.c 3 (by omega)
      have d := A1.c
      have z := A1.z
      have E := (A1.st4 g).c
      clear A2 hk hlt hg
      go_wp2_with fail
      refine bodyPost_ret (v := bv g) ?_ rfl ⟨rfl, Bel.st4 hB (by omega) g⟩
      simp only [Go.Proofs.Ytogkijjmimaccaa.st4] at E
      simp [bv, results, Try.results61, go_sem, E]
end Go.Proofs.Ytogkijjmimaccaa
/- Blocks: bytes become. -/
set_option linter.all false
set_option maxRecDepth 100000
namespace Go.Proofs.Ytogkijjmimaccaa
open Go.RowKit Go.Sort Lin
/-- A table lies in a block. -/
def TabAt (w : World) (b o : Nat) (f : By → By) : Prop := ∀ a : By, w.cell? ⟨b, o + a.val, none⟩ = some (.int .u8 ((f a).val : Int))
theorem TabAt.to {w w' : World} {b o : Nat} {f : By → By} (h : TabAt w b o f) (hb : Below w.heap.size w w') : TabAt w' b o f := fun a => (hb.cell (p := ⟨b, o + a.val, none⟩) (block_lt_of_cell (h a))).trans (h a)
theorem TabAt.lt {w : World} {b o : Nat} {f : By → By} (h : TabAt w b o f) : b < w.heap.size := block_lt_of_cell (h 0)
set_option maxHeartbeats 2000000 in
theorem become_core (x g : Nat → Int) (b o : Nat) (f : By → By) (C57 : ∀ k, k < 4 → ∀ W, TabAt W b o f → Calls Try.prog 76 #[.pointer (some ⟨b, o, none⟩), .int .u32 (x k)] W fun e w' => e = .returned (.int .u32 (g k)) ∧ Below W.heap.size W w') (w : World) (hT : TabAt w b o f) :
    Calls Try.prog 60 #[bv x, .pointer (some ⟨b, o, none⟩)] w fun e w' => e = .returned (bv g) ∧ Below w.heap.size w w' := by
  unfold bv
  go_enter Try.func60, Try.ntmps60
  go_wp2_with fail
  go_loopw [8] (fun i wr => ∃ k : Nat, k ≤ 4 ∧ i = .int .i64 k ∧ Below w.heap.size w wr ∧ Arr wr w.heap.size 4 (mid g x k) ∧ Arr wr (w.heap.size + 1) 4 (fun _ => .int .u32 0)) (fun i _ => 4 - (intOf i).toNat)
  case atStart =>
    refine ⟨0, by omega, rfl, by go_grown, ?_, ?_⟩
    · exact ((Arr.new w _ _ _ rfl _ 4 (h4_at x)).al' _).congr fun j _ => (mid_0 _ _ j).symm
    · exact Arr.new _ _ _ _ (by simp) _ 4 z4_at
  case round =>
    obtain ⟨k, hk, rfl, hB, A0, A2⟩ := hrel
    by_cases hlt : k < 4
    · have k0 : (0 : Int) ≤ (k : Int) := by omega
      have k4 : (k : Int) < 4 := by omega
      have I := fun W => idx68 _ k _ hlt (h4_at x k hlt) W
      have hc := C57 k hlt wr (hT.to hB)
      clear C57
      go_wp2_with fail
      refine hc.mono ?_
      rintro e w1 ⟨rfl, hb⟩
      have hB1 := Bel.call hB hb
      have B0 := A0.to' hb
      have B2 := A2.to' hb
      have c := B0.c k hlt
      have z := B0.z k hlt
      clear A0 A2 hc hB hb
      go_wp2_with fail
      refine ⟨⟨k + 1, by omega, by go_num, Bel.st hB1 (by omega) _, mid_at B0 hlt, B2.other (by omega) _⟩, by simp [intOf]; omega⟩
    · have e : k = 4 := by omega
      rw [show ((k : Nat) : Int) = 4 by omega]
      subst e
      have A := mid_end A0
      have c0 := A.c 0 (by omega)
      have c1 := A.c 1 (by omega)
      have c2 := A.c 2 (by omega)
      have c3 := A.c 3 (by omega)
      have d := A2.c
      have z := A2.z
      have E := (A2.st4 g).c
      clear A0 hk hlt C57
      go_wp2_with fail
      refine bodyPost_ret (v := bv g) ?_ rfl ⟨rfl, Bel.st4 hB (by omega) g⟩
      simp only [Go.Proofs.Ytogkijjmimaccaa.st4] at E
      simp [bv, results, Try.results60, go_sem, E]
end Go.Proofs.Ytogkijjmimaccaa
/- Blocks of 16 bytes by value: their cells, as one row. -/
set_option linter.all false
set_option maxRecDepth 100000
namespace Go.Proofs.Ytogkijjmimaccaa
open Go.RowKit Go.Sort Lin
/-- A byte in a cell. -/
def vc (f : Nat → By) (j : Nat) : Value := .int .u8 ((f j).val : Int)
/-- A block's cells. -/
def vL (f : Nat → By) : List Value := (List.range 16).map (vc f)
theorem vL_len (f : Nat → By) : (vL f).length = 16 := by simp [vL]
theorem vL_at (f : Nat → By) (j : Nat) (hj : j < 16) : (vL f)[j]? = some (vc f j) := by simp [vL, hj]
theorem vL_one (f : Nat → By) : ∀ v ∈ vL f, v.oneCell' = true := by
  intro v hv
  obtain ⟨j, _, rfl⟩ := List.mem_map.1 hv
  rfl
theorem vL_congr {f g : Nat → By} (h : ∀ j, j < 16 → f j = g j) : vL f = vL g := by
  unfold vL
  refine List.map_congr_left fun j hj => ?_
  unfold vc
  rw [h j (List.mem_range.1 hj)]
theorem Try.i43 : (Try.prog.info? 43).map (·.size) = some 16 := by kernel_rfl
theorem Try.u43 : Try.prog.underlying 43 = some (.array 16 5) := by kernel_rfl
/-- A type of n cells by value. -/
structure Ty (T : TypeId) (n : Nat) : Prop where
  u : ∃ d, Try.prog.underlying T = some d ∧ d.isRow = true
  i : (Try.prog.info? T).map (·.size) = some n
theorem t43 : Ty 43 16 := ⟨⟨_, Try.u43, rfl⟩, Try.i43⟩
/-- n cells, as a letter. -/
structure Cells (L : List Value) (n : Nat) (F : Nat → Value) : Prop where
  len : L.length = n
  at_ : ∀ j, j < n → L[j]? = some (F j)
  one : ∀ v ∈ L, v.oneCell' = true
abbrev Blk (L : List Value) (f : Nat → By) : Prop := Cells L 16 (vc f)
theorem blk (f : Nat → By) : Blk (vL f) f := ⟨vL_len f, vL_at f, vL_one f⟩
theorem Arr.sub {w : World} {b N : Nat} {G : Nat → Value} (A : Arr w b N G) {L : List Value} {n : Nat} {F : Nat → Value} (c : Cells L n F) (o : Nat) (ho : o + n ≤ N) (e : ∀ j, j < n → G (o + j) = F j) : w.rangeAt b o L := fun j v hv => by
  have hj : j < n := by rw [← c.len]; exact (List.getElem?_eq_some_iff.1 hv).1
  rw [(A (o + j) (by omega)).1, e j hj, ← c.at_ j hj]
  exact hv
theorem Cells.ld {L : List Value} {n : Nat} {F : Nat → Value} (c : Cells L n F) {T : TypeId} (t : Ty T n) {w : World} {b N : Nat} {G : Nat → Value} (A : Arr w b N G) (o : Nat) (ho : o + n ≤ N) (e : ∀ j, j < n → G (o + j) = F j) :
    (loadVar T ⟨b, o, none⟩).run Try.prog w = .ok (.agg L.toArray) w := by
  obtain ⟨d, hu, hd⟩ := t.u
  exact run_loadVar_mid w b o T L d (A.sub c o ho e) hu hd (by rw [c.len]; exact t.i)
/-- A variable is loaded, in a plain region. -/
theorem Cells.wld {L : List Value} {n : Nat} {F : Nat → Value} (c : Cells L n F) {T : TypeId} (t : Ty T n) {w : World} {b N : Nat} {G : Nat → Value} (A : Arr w b N G) (o : Nat) (ho : o + n ≤ N) (e : ∀ j, j < n → G (o + j) = F j)
    {ops : Array Oper} {rest : List Oper} {op : Oper} {a : Act} {Q : Exit → Act → World → Prop} (hgd : op.guard = none) (x : Operand) (hop : op.op = .load T x) (hx : a.eval x = .pointer (some ⟨b, o, none⟩))
    (h : wpList Try.prog ops Q rest (a.put op.dst (.agg L.toArray)) w) : wpList Try.prog ops Q (op :: rest) a w := by
  obtain ⟨d, hu, hd⟩ := t.u
  exact wpList_load_mid hgd T x hop b o hx L d (A.sub c o ho e) hu hd (by rw [c.len]; exact t.i) h
/-- A value is stored, in a plain region. -/
theorem Cells.wst {L : List Value} {n : Nat} {F : Nat → Value} (c : Cells L n F) {T : TypeId} (t : Ty T n) {w : World} {b : Nat} {G : Nat → Value} (A : Arr w b n G)
    {ops : Array Oper} {rest : List Oper} {op : Oper} {a : Act} {Q : Exit → Act → World → Prop} (hgd : op.guard = none) (x y : Operand) (hop : op.op = .store T x y) (hx : a.eval x = .pointer (some ⟨b, 0, none⟩)) (hy : a.eval y = .agg L.toArray)
    (h : wpList Try.prog ops Q rest (a.put op.dst undef) (w.setCells b 0 L)) : wpList Try.prog ops Q (op :: rest) a w := by
  have hs : L.toArray.size = n := by rw [List.size_toArray]; exact c.len
  exact wpList_store_mid hgd T x y hop b 0 L.toArray hx hy (by rw [hs]; exact A.there) (by rw [hs]; exact t.i) (all_oneCell_toArray c.one) h
/-- A variable is loaded, in a region that draws its order. -/
theorem Cells.qld {L : List Value} {n : Nat} {F : Nat → Value} (c : Cells L n F) {T : TypeId} (t : Ty T n) {w : World} {b N : Nat} {G : Nat → Value} (A : Arr w b (N + 1) G) (o : Nat) (ho : o + n ≤ N + 1) (e : ∀ j, j < n → G (o + j) = F j)
    {C : World → Prop} (hC : ∀ W, C W → Below w.heap.size w W) {ops : Array Oper} {rest : List Oper} {op : Oper} {a : Act} {Q : Act → Prop} (hw : Region.wanted op (yielded ops a.tmps) = true) (x : Operand) (hop : op.op = .load T x) (hx : a.eval x = .pointer (some ⟨b, o, none⟩))
    (h : wpQuiet Try.prog ops C Q rest (a.put op.dst (.agg L.toArray))) : wpQuiet Try.prog ops C Q (op :: rest) a := by
  refine BigFrame.wpQuiet_want hw fun K hK => ⟨.agg L.toArray, fun W hW => ?_, hK _ h⟩
  unfold Oper.quietAt execOp
  simp only [hop, hx, Instr.loadAt, Instr.sureAddr, Sem.run_bind, Sem.run_pure, Result.andThen_ok, c.ld t (A.to' (hC W hW)) o ho e]
  exact ⟨rfl, rfl⟩
theorem Cells.set {L : List Value} {n : Nat} {F : Nat → Value} (c : Cells L n F) {w : World} {b : Nat} {G : Nat → Value} (A : Arr w b n G) : Arr (w.setCells b 0 L) b n F := A.sets L c.len _ c.at_
theorem Cells.new {L : List Value} {n : Nat} {F : Nat → Value} (c : Cells L n F) (w : World) (T : TypeId) (b : Nat) (hb : b = w.heap.size) : Arr (w.alloc (.cells L.toArray T)) b n F :=
  Arr.new w _ T b hb _ n (fun j hj => by rw [List.getElem?_toArray]; exact c.at_ j hj)
theorem blk_idx {L : List Value} {f : Nat → By} (h : Blk L f) (k : Nat) (hk : k < 16) (W : World) : (Instr.index 43 (.agg L.toArray) (.int .i64 (k : Int))).run Try.prog W = .ok (.int .u8 ((f k).val : Int)) W := by
  have h0 : (0 : Int) ≤ (k : Int) ∧ (k : Int) < ((16 : Nat) : Int) := by omega
  have hs : (Go.sizeOf 5).run Try.prog W = .ok 1 W := by kernel_rfl
  have ha : (isAgg 5).run Try.prog W = .ok false W := by kernel_rfl
  simp only [Instr.index, asIntOf, Sem.run_bind, Sem.run_pure, Result.andThen_ok, run_underlying Try.u43]
  rw [Sem.run_ite, if_pos h0]
  simp only [Sem.run_bind, hs, Result.andThen_ok, Int.toNat_natCast, Nat.mul_one]
  have e : L.toArray[k]? = some (vc f k) := by rw [List.getElem?_toArray]; exact h.at_ k hk
  simp [part, Sem.run_bind, ha, e, vc]
abbrev z16c : Array Value := #[.int .u8 0, .int .u8 0, .int .u8 0, .int .u8 0, .int .u8 0, .int .u8 0, .int .u8 0, .int .u8 0, .int .u8 0, .int .u8 0, .int .u8 0, .int .u8 0, .int .u8 0, .int .u8 0, .int .u8 0, .int .u8 0]
theorem v0_at (j : Nat) (hj : j < 16) : z16c[j]? = some (vc (fun _ => 0) j) := by
  have e : z16c = (vL (fun _ => 0)).toArray := rfl
  rw [e, List.getElem?_toArray]
  exact vL_at _ j hj
theorem new0 (w : World) (b : Nat) (hb : b = w.heap.size) : Arr (w.alloc (.cells z16c 43)) b 16 (vc (fun _ => 0)) := Arr.new w _ 43 b hb _ 16 v0_at
/-- A block. -/
def bB (f : Nat → By) : Value := .agg (vL f).toArray
theorem bB_congr {f g : Nat → By} (h : ∀ j, j < 16 → f j = g j) : bB f = bB g := by unfold bB; rw [vL_congr h]
def pl (f g : Nat → By) (j : Nat) : By := xr (f j) (g j)
def md (y x : Nat → By) (k j : Nat) : By := if j < k then y j else x j
theorem md_0 (y x : Nat → By) (j : Nat) : md y x 0 j = x j := by unfold md; rw [if_neg (by omega)]
theorem md_set (y x : Nat → By) (k n : Nat) : ∀ j, j < n → (if j = k then Value.int .u8 ((y k).val : Int) else vc (md y x k) j) = vc (md y x (k + 1)) j := fun j _ => by
  unfold vc md
  by_cases e : j = k
  · subst e; rw [if_pos rfl, if_pos (by omega)]
  · rw [if_neg e]
    by_cases e2 : j < k
    · rw [if_pos e2, if_pos (by omega)]
    · rw [if_neg e2, if_neg (by omega)]
theorem md_all (y x : Nat → By) (j : Nat) (hj : j < 16) : md y x 16 j = y j := by unfold md; rw [if_pos hj]
theorem vc_congr {f g : Nat → By} {j : Nat} (h : f j = g j) : vc f j = vc g j := by unfold vc; rw [h]
set_option maxHeartbeats 1000000 in
theorem splus_core (L M K : List Value) (f g : Nat → By) (hL : Blk L f) (hM : Blk M g) (hK : Blk K (pl f g)) (w : World) :
    Calls Try.prog 42 #[.agg L.toArray, .agg M.toArray] w fun e w' => e = .returned (.agg K.toArray) ∧ Below w.heap.size w w' := by
  go_enter Try.func42, Try.ntmps42
  go_upto_region 1 with (fail)
  have A1 : Arr _ _ 16 _ := (hL.new w 43 _ rfl).al' (n := 15) (.cells M.toArray 43)
  have A1 : Arr _ _ 16 _ := A1.al' (n := 15) (.cells z16c 43)
  have A2 : Arr _ _ 16 _ := (hM.new (w.alloc (.cells L.toArray 43)) 43 (w.heap.size + 1) (by simp)).al' (n := 15) (.cells z16c 43)
  have A3 := new0 ((w.alloc (.cells L.toArray 43)).alloc (.cells M.toArray 43)) (w.heap.size + 1 + 1) (by simp)
  have hB : Below w.heap.size w (((w.alloc (.cells L.toArray 43)).alloc (.cells M.toArray 43)).alloc (.cells z16c 43)) := by go_grown
  generalize (((w.alloc (.cells L.toArray 43)).alloc (.cells M.toArray 43)).alloc (.cells z16c 43)) = W at *
  refine wp_region_list ?_
  refine hM.wld t43 A2 0 (by omega) (fun j _ => by rw [Nat.zero_add]) (by rfl) (.tmp 3) (by rfl) (by rfl) ?_
  go_wp2_with fail
  go_loopw [8] (fun i wr => ∃ k : Nat, k ≤ 16 ∧ i = .int .i64 k ∧ Below w.heap.size w wr ∧ Arr wr w.heap.size 16 (vc (md (pl f g) f k)) ∧ Arr wr (w.heap.size + 1 + 1) 16 (vc (fun _ => 0))) (fun i _ => 16 - (intOf i).toNat)
  case atStart => exact ⟨0, by omega, rfl, hB, A1.congr fun j _ => vc_congr (md_0 _ _ j).symm, A3⟩
  case round =>
    clear A1 A2 A3 hB
    obtain ⟨k, hk, rfl, hB, A, Z⟩ := hrel
    by_cases hlt : k < 16
    · have k0 : (0 : Int) ≤ (k : Int) := by omega
      have k1 : (k : Int) < 16 := by omega
      have I := fun W => blk_idx hM k hlt W
      have X := xr8 (f k) (g k)
      have c0 := A.cv k hlt (.int .u8 ((f k).val : Int)) (by unfold vc md; rw [if_neg (by omega)])
      have z0 := A.z k hlt
      have HX : Hid (xr (f k) (g k) = pl f g k) := rfl
      generalize xr (f k) (g k) = c at *
      go_wp2_with fail
      refine ⟨⟨k + 1, by omega, by go_num, Bel.st hB (by omega) _, ?_, Z.other (by omega) _⟩, by simp [intOf]; omega⟩
      rw [HX.out]
      exact (A.set k hlt _).congr (md_set (pl f g) f k 16)
    · have e : k = 16 := by omega
      rw [show ((k : Nat) : Int) = 16 by omega]
      subst e
      replace A := A.congr fun j hj => vc_congr (md_all (pl f g) f j hj)
      have lv := hK.ld t43 (hK.set Z) 0 (by omega) (fun j _ => by rw [Nat.zero_add])
      have LV : Hid _ := lv
      clear lv hk hlt
      go_upto_region 6 with (fail)
      refine wp_region_list ?_
      refine hK.wld t43 A 0 (by omega) (fun j _ => by rw [Nat.zero_add]) (by rfl) (.tmp 2) (by rfl) (by rfl) ?_
      refine hK.wst t43 Z (by rfl) (.tmp 4) (.tmp 19) (by rfl) (by rfl) (by rfl) ?_
      refine wpList_nil ?_
      go_wp2_with fail
      exact bodyPost_ret (v := .agg K.toArray) (results_cell1 Try.results42 _ (by rfl) LV.out) rfl ⟨rfl, below_setCells hB (by omega) _ _⟩
theorem splus_any (f g : Nat → By) (w : World) : Calls Try.prog 42 #[bB f, bB g] w fun e w' => e = .returned (bB (pl f g)) ∧ Below w.heap.size w w' :=
  splus_core _ _ _ f g (blk f) (blk g) (blk _) w
end Go.Proofs.Ytogkijjmimaccaa
