/- Texts joined: A6, A7, A8. -/
import Derived.Test.YtjaljnfijhfkcaaGreatDoorJ9
/- Blocks: sums, bytes become, rows turned, columns mixed, as words. -/
set_option linter.all false
set_option maxRecDepth 100000
namespace Go.Proofs.YtjaljnfijhfkcaaGreatDoor
open Go.RowKit Go.Sort Lin
/-- Four words. -/
def bv (x : Nat → Int) : Value := .agg #[.int .u32 (x 0), .int .u32 (x 1), .int .u32 (x 2), .int .u32 (x 3)]
theorem h4_at (x : Nat → Int) (j : Nat) (hj : j < 4) : (#[.int .u32 (x 0), .int .u32 (x 1), .int .u32 (x 2), .int .u32 (x 3)] : Array Value)[j]? = some (.int .u32 (x j)) := by
  have : j = 0 ∨ j = 1 ∨ j = 2 ∨ j = 3 := by omega
  rcases this with rfl | rfl | rfl | rfl <;> rfl
theorem z4_at (j : Nat) (hj : j < 4) : (#[.int .u32 0, .int .u32 0, .int .u32 0, .int .u32 0] : Array Value)[j]? = some (.int .u32 0) := h4_at (fun _ => 0) j hj
theorem idx68 (A : Array Value) (k : Nat) (v : Int) (hk : k < 4) (hv : A[k]? = some (.int .u32 v)) (W : World) : (Instr.index 168 (.agg A) (.int .i64 (k : Int))).run Tryz.prog W = .ok (.int .u32 v) W := by
  have h0 : (0 : Int) ≤ (k : Int) ∧ (k : Int) < ((4 : Nat) : Int) := by omega
  have hs : (Go.sizeOf 112).run Tryz.prog W = .ok 1 W := by kernel_rfl
  simp only [Instr.index, asIntOf, Sem.run_bind, Sem.run_pure, Result.andThen_ok, run_underlying Tryz.underlying168]
  rw [Sem.run_ite, if_pos h0]
  simp only [Sem.run_bind, hs, Result.andThen_ok, Int.toNat_natCast, Nat.mul_one]
  have ha : (isAgg 112).run Tryz.prog W = .ok false W := by kernel_rfl
  simp [part, Sem.run_bind, ha, hv]
/-- The first k are done. -/
def mid (y x : Nat → Int) (k : Nat) (j : Nat) : Value := .int .u32 (if j < k then y j else x j)
theorem mid_at {w : World} {b : Nat} {x y : Nat → Int} {k : Nat} (h : Arr w b 4 (mid y x k)) (hk : k < 4) : Arr (w.setCell ⟨b, k, none⟩ (.int .u32 (y k))) b 4 (mid y x (k + 1)) := by
  refine (h.set k hk _).congr ?_
  intro j hj
  unfold mid
  by_cases e : j = k
  · subst e; simp
  · simp only [if_neg e]
    by_cases e2 : j < k
    · rw [if_pos e2, if_pos (by omega)]
    · rw [if_neg e2, if_neg (by omega)]
theorem mid_end {w : World} {b : Nat} {x y : Nat → Int} (h : Arr w b 4 (mid y x 4)) : Arr w b 4 (fun j => .int .u32 (y j)) := h.congr fun j hj => by unfold mid; rw [if_pos hj]
theorem mid_0 (x y : Nat → Int) (j : Nat) : mid y x 0 j = .int .u32 (x j) := by unfold mid; rw [if_neg (by omega)]
/-- Four words put into a block. -/
def st4 (w : World) (b : Nat) (g : Nat → Int) : World := (((w.setCell ⟨b, 0, none⟩ (.int .u32 (g 0))).setCell ⟨b, 1, none⟩ (.int .u32 (g 1))).setCell ⟨b, 2, none⟩ (.int .u32 (g 2))).setCell ⟨b, 3, none⟩ (.int .u32 (g 3))
theorem Arr.st4 {w : World} {b : Nat} {f : Nat → Value} (h : Arr w b 4 f) (g : Nat → Int) : Arr (st4 w b g) b 4 (fun j => .int .u32 (g j)) :=
  ((((h.set 0 (by omega) _).set 1 (by omega) _).set 2 (by omega) _).set 3 (by omega) _).congr (by
    intro j hj
    have : j = 0 ∨ j = 1 ∨ j = 2 ∨ j = 3 := by omega
    rcases this with rfl | rfl | rfl | rfl <;> simp)
theorem Arr.st4o {w : World} {b b' n : Nat} {f : Nat → Value} (h : Arr w b n f) (hne : b' ≠ b) (g : Nat → Int) : Arr (Go.Proofs.YtjaljnfijhfkcaaGreatDoor.st4 w b' g) b n f := (((h.other hne _).other hne _).other hne _).other hne _
theorem Bel.st4 {w W : World} (h : Below w.heap.size w W) {b : Nat} (hle : w.heap.size ≤ b) (g : Nat → Int) : Below w.heap.size w (Go.Proofs.YtjaljnfijhfkcaaGreatDoor.st4 W b g) := Bel.st (Bel.st (Bel.st (Bel.st h hle _) hle _) hle _) hle _
theorem ko_st4 (W : World) (b : Nat) (g : Nat → Int) : KeepsOthers W (st4 W b g) := (((KeepsOthers.setCell _ _ _).trans (KeepsOthers.setCell _ _ _)).trans (KeepsOthers.setCell _ _ _)).trans (KeepsOthers.setCell _ _ _)
set_option maxHeartbeats 2000000 in
theorem plus_core (x y g : Nat → Int) (hg : ∀ k, k < 4 → bits .xor .u32 (x k) (y k) = g k) (w : World) :
    Calls Tryz.prog 111 #[bv x, bv y] w fun e w' => e = .returned (bv g) ∧ Below w.heap.size w w' := by
  unfold bv
  go_enter Tryz.func111, Tryz.ntmps111
  go_wp2_with fail
  go_loopw [8] (fun i wr => ∃ k : Nat, k ≤ 4 ∧ i = .int .i64 k ∧ Below w.heap.size w wr ∧ Arr wr w.heap.size 4 (mid g x k) ∧ Arr wr (w.heap.size + 1 + 1) 4 (fun _ => .int .u32 0)) (fun i _ => 4 - (intOf i).toNat)
  case atStart =>
    refine ⟨0, by omega, rfl, by go_grown, ?_, ?_⟩
    · exact (((Arr.new w _ _ _ rfl _ 4 (h4_at x)).al' _).al' _).congr fun j _ => (mid_0 _ _ j).symm
    · exact Arr.new _ _ _ _ (by simp) _ 4 z4_at
  case round =>
    obtain ⟨k, hk, rfl, hB, A0, A2⟩ := hrel
    by_cases hlt : k < 4
    · have k0 : (0 : Int) ≤ (k : Int) := by omega
      have k4 : (k : Int) < 4 := by omega
      have I := fun W => idx68 _ k _ hlt (h4_at y k hlt) W
      have c := A0.cv k hlt (.int .u32 (x k)) (by unfold mid; rw [if_neg (by omega)])
      have z := A0.z k hlt
      have hgk := hg k hlt
      clear hg
      go_wp2_with fail
      refine ⟨⟨k + 1, by omega, by go_num, Bel.st hB (by omega) _, mid_at A0 hlt, A2.other (by omega) _⟩, by simp [intOf]; omega⟩
    · have e : k = 4 := by omega
      rw [show ((k : Nat) : Int) = 4 by omega]
      subst e
      have A := mid_end A0
      have c0 := A.c 0 (by omega)
      have c1 := A.c 1 (by omega)
      have c2 := A.c 2 (by omega)
      have c3 := A.c 3 (by omega)
      have d := A2.c
      have z := A2.z
      have E := (A2.st4 g).c
      clear A0 hk hlt hg
      go_wp2_with fail
      refine bodyPost_ret (v := bv g) ?_ rfl ⟨rfl, Bel.st4 hB (by omega) g⟩
      simp only [Go.Proofs.YtjaljnfijhfkcaaGreatDoor.st4] at E
      simp [bv, results, Tryz.results111, go_sem, E]
end Go.Proofs.YtjaljnfijhfkcaaGreatDoor
/- Blocks: bytes become. -/
set_option linter.all false
set_option maxRecDepth 100000
namespace Go.Proofs.YtjaljnfijhfkcaaGreatDoor
open Go.RowKit Go.Sort Lin
/-- A table lies in a block. -/
def TabAt (w : World) (b o : Nat) (f : By → By) : Prop := ∀ a : By, w.cell? ⟨b, o + a.val, none⟩ = some (.int .u8 ((f a).val : Int))
theorem TabAt.to {w w' : World} {b o : Nat} {f : By → By} (h : TabAt w b o f) (hb : Below w.heap.size w w') : TabAt w' b o f := fun a => (hb.cell (p := ⟨b, o + a.val, none⟩) (block_lt_of_cell (h a))).trans (h a)
theorem TabAt.lt {w : World} {b o : Nat} {f : By → By} (h : TabAt w b o f) : b < w.heap.size := block_lt_of_cell (h 0)
set_option maxHeartbeats 2000000 in
theorem become_core (x g : Nat → Int) (b o : Nat) (f : By → By) (C57 : ∀ k, k < 4 → ∀ W, TabAt W b o f → Calls Tryz.prog 126 #[.pointer (some ⟨b, o, none⟩), .int .u32 (x k)] W fun e w' => e = .returned (.int .u32 (g k)) ∧ Below W.heap.size W w') (w : World) (hT : TabAt w b o f) :
    Calls Tryz.prog 108 #[bv x, .pointer (some ⟨b, o, none⟩)] w fun e w' => e = .returned (bv g) ∧ Below w.heap.size w w' := by
  unfold bv
  go_enter Tryz.func108, Tryz.ntmps108
  go_wp2_with fail
  go_loopw [8] (fun i wr => ∃ k : Nat, k ≤ 4 ∧ i = .int .i64 k ∧ Below w.heap.size w wr ∧ Arr wr w.heap.size 4 (mid g x k) ∧ Arr wr (w.heap.size + 1) 4 (fun _ => .int .u32 0)) (fun i _ => 4 - (intOf i).toNat)
  case atStart =>
    refine ⟨0, by omega, rfl, by go_grown, ?_, ?_⟩
    · exact ((Arr.new w _ _ _ rfl _ 4 (h4_at x)).al' _).congr fun j _ => (mid_0 _ _ j).symm
    · exact Arr.new _ _ _ _ (by simp) _ 4 z4_at
  case round =>
    obtain ⟨k, hk, rfl, hB, A0, A2⟩ := hrel
    by_cases hlt : k < 4
    · have k0 : (0 : Int) ≤ (k : Int) := by omega
      have k4 : (k : Int) < 4 := by omega
      have I := fun W => idx68 _ k _ hlt (h4_at x k hlt) W
      have hc := C57 k hlt wr (hT.to hB)
      clear C57
      go_wp2_with fail
      refine hc.mono ?_
      rintro e w1 ⟨rfl, hb⟩
      have hB1 := Bel.call hB hb
      have B0 := A0.to' hb
      have B2 := A2.to' hb
      have c := B0.c k hlt
      have z := B0.z k hlt
      clear A0 A2 hc hB hb
      go_wp2_with fail
      refine ⟨⟨k + 1, by omega, by go_num, Bel.st hB1 (by omega) _, mid_at B0 hlt, B2.other (by omega) _⟩, by simp [intOf]; omega⟩
    · have e : k = 4 := by omega
      rw [show ((k : Nat) : Int) = 4 by omega]
      subst e
      have A := mid_end A0
      have c0 := A.c 0 (by omega)
      have c1 := A.c 1 (by omega)
      have c2 := A.c 2 (by omega)
      have c3 := A.c 3 (by omega)
      have d := A2.c
      have z := A2.z
      have E := (A2.st4 g).c
      clear A0 hk hlt C57
      go_wp2_with fail
      refine bodyPost_ret (v := bv g) ?_ rfl ⟨rfl, Bel.st4 hB (by omega) g⟩
      simp only [Go.Proofs.YtjaljnfijhfkcaaGreatDoor.st4] at E
      simp [bv, results, Tryz.results108, go_sem, E]
end Go.Proofs.YtjaljnfijhfkcaaGreatDoor
/- Blocks: columns mixed. -/
set_option linter.all false
set_option maxRecDepth 100000
namespace Go.Proofs.YtjaljnfijhfkcaaGreatDoor
open Go.RowKit Go.Sort Lin
set_option maxHeartbeats 2000000 in
theorem rotl_any (x s k : Int) (hs : 0 ≤ s) (hs2 : s < 32) (hk : bits .and .u64 (IntKind.u64.wrap k) 31 = s) (w : World) : Calls Tryz.prog 127 #[.int .u32 x, .int .i64 k] w fun e w' => e = .returned (.int .u32 (bits .or .u32 (x * 2 ^ s.toNat % 4294967296) (x / 2 ^ (32 - s).toNat))) ∧ w' = w := by
  go_enter Tryz.func127, Tryz.ntmps127
  go_wp2
  go_ret
  exact ⟨rfl, rfl⟩
set_option maxHeartbeats 2000000 in
theorem mixed_core (x p q r s g : Nat → Int)
    (C8 : ∀ k, k < 4 → ∀ W, Calls Tryz.prog 127 #[.int .u32 (x k), .int .i64 8] W fun e w' => e = .returned (.int .u32 (p k)) ∧ w' = W)
    (C16 : ∀ k, k < 4 → ∀ W, Calls Tryz.prog 127 #[.int .u32 (x k), .int .i64 16] W fun e w' => e = .returned (.int .u32 (q k)) ∧ w' = W)
    (C24 : ∀ k, k < 4 → ∀ W, Calls Tryz.prog 127 #[.int .u32 (x k), .int .i64 24] W fun e w' => e = .returned (.int .u32 (r k)) ∧ w' = W)
    (CD : ∀ k, k < 4 → ∀ W, Calls Tryz.prog 128 #[.int .u32 (bits .xor .u32 (x k) (p k))] W fun e w' => e = .returned (.int .u32 (s k)) ∧ w' = W)
    (hg : ∀ k, k < 4 → bits .xor .u32 (bits .xor .u32 (bits .xor .u32 (s k) (p k)) (q k)) (r k) = g k) (w : World) :
    Calls Tryz.prog 110 #[bv x] w fun e w' => e = .returned (bv g) ∧ Below w.heap.size w w' := by
  unfold bv
  go_enter Tryz.func110, Tryz.ntmps110
  go_wp2_with fail
  go_loopw [7] (fun i wr => ∃ k : Nat, k ≤ 4 ∧ i = .int .i64 k ∧ Below w.heap.size w wr ∧ Arr wr w.heap.size 4 (mid g x k) ∧ Arr wr (w.heap.size + 1) 4 (fun _ => .int .u32 0)) (fun i _ => 4 - (intOf i).toNat)
  case atStart =>
    refine ⟨0, by omega, rfl, by go_grown, ?_, ?_⟩
    · exact ((Arr.new w _ _ _ rfl _ 4 (h4_at x)).al' _).congr fun j _ => (mid_0 _ _ j).symm
    · exact Arr.new _ _ _ _ (by simp) _ 4 z4_at
  case round =>
    obtain ⟨k, hk, rfl, hB, A0, A2⟩ := hrel
    by_cases hlt : k < 4
    · have k0 : (0 : Int) ≤ (k : Int) := by omega
      have k4 : (k : Int) < 4 := by omega
      have I := fun W => idx68 _ k _ hlt (h4_at x k hlt) W
      have hgk := hg k hlt
      have c8 := C8 k hlt wr
      have c16 := C16 k hlt wr
      have c24 := C24 k hlt wr
      have cd := CD k hlt wr
      have c := A0.c k hlt
      have z := A0.z k hlt
      clear C8 C16 C24 CD hg
      go_wp2_with fail
      refine c8.mono ?_
      rintro e w1 ⟨rfl, rfl⟩
      go_wp2_with fail
      refine cd.mono ?_
      rintro e w2 ⟨rfl, rfl⟩
      go_wp2_with fail
      refine c16.mono ?_
      rintro e w3 ⟨rfl, rfl⟩
      go_wp2_with fail
      refine c24.mono ?_
      rintro e w4 ⟨rfl, rfl⟩
      clear c8 c16 c24 cd
      go_wp2_with fail
      refine ⟨⟨k + 1, by omega, by go_num, Bel.st hB (by omega) _, mid_at A0 hlt, A2.other (by omega) _⟩, by simp [intOf]; omega⟩
    · have e : k = 4 := by omega
      rw [show ((k : Nat) : Int) = 4 by omega]
      subst e
      have A := mid_end A0
      have c0 := A.c 0 (by omega)
      have c1 := A.c 1 (by omega)
      have c2 := A.c 2 (by omega)
      have c3 := A.c 3 (by omega)
      have d := A2.c
      have z := A2.z
      have E := (A2.st4 g).c
      clear A0 hk hlt hg C8 C16 C24 CD
      go_wp2_with fail
      refine bodyPost_ret (v := bv g) ?_ rfl ⟨rfl, Bel.st4 hB (by omega) g⟩
      simp only [Go.Proofs.YtjaljnfijhfkcaaGreatDoor.st4] at E
      simp [bv, results, Tryz.results110, go_sem, E]
end Go.Proofs.YtjaljnfijhfkcaaGreatDoor
