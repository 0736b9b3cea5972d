/- Numbers within a tag, read. -/
import Derived.Test.YtjdpeedghpblgaaGreatDoorJ8
import Derived.Test.YtjdpeedghpblgaaGreatDoorJ2
set_option linter.all false
set_option maxRecDepth 100000
namespace Go.Proofs.YtjdpeedghpblgaaGreatDoor
open Go.RowKit Go.Sort
abbrev nz : Value := .agg #[.int .u64 0, .int .u64 0, .int .u64 0, .int .u64 0]
theorem four_cells {w w1 : World} {a b c d : Value} {T : TypeId} (h : Below (w.alloc (.cells #[a, b, c, d] T)).heap.size (w.alloc (.cells #[a, b, c, d] T)) w1) : (w1.cell? ⟨w.heap.size, 0, none⟩ = some a ∧ w1.cell? ⟨w.heap.size, 1, none⟩ = some b ∧ w1.cell? ⟨w.heap.size, 2, none⟩ = some c ∧ w1.cell? ⟨w.heap.size, 3, none⟩ = some d) ∧ w1.frozen? ⟨w.heap.size, 0, none⟩ = false ∧ w1.frozen? ⟨w.heap.size, 1, none⟩ = false ∧ w1.frozen? ⟨w.heap.size, 2, none⟩ = false ∧ w1.frozen? ⟨w.heap.size, 3, none⟩ = false := by
  have A : Arr (w.alloc (.cells #[a, b, c, d] T)) w.heap.size 4 (fun j => if j = 0 then a else if j = 1 then b else if j = 2 then c else d) := Arr.new w #[a, b, c, d] T _ rfl _ 4 (fun j hj => by
    match j, hj with
    | 0, _ => rfl
    | 1, _ => rfl
    | 2, _ => rfl
    | 3, _ => rfl)
  have A1 := A.below h (by simp)
  exact ⟨⟨A1.c 0 (by omega), A1.c 1 (by omega), A1.c 2 (by omega), A1.c 3 (by omega)⟩, A1.z 0 (by omega), A1.z 1 (by omega), A1.z 2 (by omega), A1.z 3 (by omega)⟩
theorem idx1 (s : ByteArray) (hs : 1 < s.size) (W : World) : (Instr.index 9 (.string s) (.int .i64 1)).run Tryz.prog W = .ok (.int .u8 (bt s 1)) W := idxS s 1 hs W
theorem ti_0 (w : World) : Calls Tryz.prog 88 #[.string ⟨#[]⟩] w fun e w' => e = .returned (.tuple #[nz, .int .i64 11]) ∧ Below w.heap.size w w' := by
  go_enter Tryz.func88, Tryz.ntmps88
  go_wp2_with fail
  exact bodyPost_ret (v := .tuple #[nz, .int .i64 11]) (by simp [results, Tryz.results88, go_sem]) rfl ⟨rfl, by go_grown⟩
/-- The three ways on: one byte; a first one that is not 0; a byte 0 ahead of a high one. -/
def tiOk (s : ByteArray) : Prop := bt s 0 < 128 ∧ (s.size = 1 ∨ (1 < s.size ∧ bt s 0 ≠ 0) ∨ (1 < s.size ∧ bt s 0 = 0 ∧ 128 ≤ bt s 1))
theorem ti_f (s : ByteArray) (hs : 0 < s.size) (hm : s.size ≤ maxLen) (h : ¬ tiOk s) (w : World) : Calls Tryz.prog 88 #[.string s] w fun e w' => e = .returned (.tuple #[nz, .int .i64 10]) ∧ Below w.heap.size w w' := by
  have em := emp_no s hs
  have I := idx0 s hs
  have b0 := bt_bd s 0
  unfold tiOk at h
  by_cases c : 128 ≤ bt s 0
  · clear h
    generalize bt s 0 = x at *
    go_enter Tryz.func88, Tryz.ntmps88
    go_wp2_with fail
    exact bodyPost_ret (v := .tuple #[nz, .int .i64 10]) (by simp [results, Tryz.results88, go_sem]) rfl ⟨rfl, by go_grown⟩
  · have h1 : 1 < s.size := by omega
    have h2 : bt s 0 = 0 := by omega
    have h3 : bt s 1 < 128 := by omega
    have I1 := idx1 s h1
    have b1 := bt_bd s 1
    have hz : (1 : Int) < (s.size : Int) := by omega
    rw [h2] at I
    clear h c b0 h2
    generalize bt s 1 = y at *
    go_enter Tryz.func88, Tryz.ntmps88
    go_wp2_with fail
    exact bodyPost_ret (v := .tuple #[nz, .int .i64 10]) (by simp [results, Tryz.results88, go_sem]) rfl ⟨rfl, by go_grown⟩
theorem ti_n (s B : ByteArray) (hs : 0 < s.size) (hm : s.size ≤ maxLen) (h : tiOk s) (hB : 32 < B.size)
    (C33 : ∀ W, Calls Tryz.prog 109 #[.string s, .string ⟨#[0]⟩] W fun e w' => e = .returned (.string B) ∧ w' = W) (w : World) :
    Calls Tryz.prog 88 #[.string s] w fun e w' => e = .returned (.tuple #[nz, .int .i64 13]) ∧ Below w.heap.size w w' := by
  have em := emp_no s hs
  have I := idx0 s hs
  have b0 := bt_bd s 0
  have hB' : (32 : Int) < (B.size : Int) := by omega
  obtain ⟨h0, h1 | ⟨h1, h2⟩ | ⟨h1, h2, h3⟩⟩ := h
  · have hz : (s.size : Int) = 1 := by omega
    clear h1
    generalize bt s 0 = x at *
    go_enter Tryz.func88, Tryz.ntmps88
    go_wp2_with (go_at_call 109; refine (C33 _).mono ?_; rintro e w1 ⟨rfl, rfl⟩)
    exact bodyPost_ret (v := .tuple #[nz, .int .i64 13]) (by simp [results, Tryz.results88, go_sem]) rfl ⟨rfl, by go_grown⟩
  · have hz : (1 : Int) < (s.size : Int) := by omega
    generalize bt s 0 = x at *
    go_enter Tryz.func88, Tryz.ntmps88
    go_wp2_with (go_at_call 109; refine (C33 _).mono ?_; rintro e w1 ⟨rfl, rfl⟩)
    exact bodyPost_ret (v := .tuple #[nz, .int .i64 13]) (by simp [results, Tryz.results88, go_sem]) rfl ⟨rfl, by go_grown⟩
  · have hz : (1 : Int) < (s.size : Int) := by omega
    have I1 := idx1 s h1
    have b1 := bt_bd s 1
    rw [h2] at I
    clear h2 h0 b0
    generalize bt s 1 = y at *
    go_enter Tryz.func88, Tryz.ntmps88
    go_wp2_with (go_at_call 109; refine (C33 _).mono ?_; rintro e w1 ⟨rfl, rfl⟩)
    exact bodyPost_ret (v := .tuple #[nz, .int .i64 13]) (by simp [results, Tryz.results88, go_sem]) rfl ⟨rfl, by go_grown⟩
theorem ti_y (s B Z : ByteArray) (v0 v1 v2 v3 : Int) (hs : 0 < s.size) (hm : s.size ≤ maxLen) (h : tiOk s) (hB : B.size ≤ 32) (n : Nat) (hn : n = 32 - B.size) (hZ : Z.size = n)
    (C33 : ∀ W, Calls Tryz.prog 109 #[.string s, .string ⟨#[0]⟩] W fun e w' => e = .returned (.string B) ∧ w' = W)
    (C35 : ∀ W, Calls Tryz.prog 33 #[.string ⟨#[0]⟩, .int .i64 (32 - (B.size : Int))] W fun e w' => e = .returned (.string Z) ∧ Below W.heap.size W w')
    (C34 : ∀ W, Calls Tryz.prog 110 #[.string (Z ++ B)] W fun e w' => e = .returned (.tuple #[.agg #[.int .u64 v0, .int .u64 v1, .int .u64 v2, .int .u64 v3], .int .i64 0]) ∧ Below W.heap.size W w') (w : World) :
    Calls Tryz.prog 88 #[.string s] w fun e w' => e = .returned (.tuple #[.agg #[.int .u64 v0, .int .u64 v1, .int .u64 v2, .int .u64 v3], .int .i64 0]) ∧ Below w.heap.size w w' := by
  have em := emp_no s hs
  have I := idx0 s hs
  have b0 := bt_bd s 0
  have hB' : (B.size : Int) ≤ 32 := by omega
  have AD := add_s Z B (by omega)
  generalize Z ++ B = ZB at *
  obtain ⟨h0, h1 | ⟨h1, h2⟩ | ⟨h1, h2, h3⟩⟩ := h
  · have hz : (s.size : Int) = 1 := by omega
    clear h1
    generalize bt s 0 = x at *
    go_enter Tryz.func88, Tryz.ntmps88
    go_wp2_with (first | (go_at_call 109; refine (C33 _).mono ?_; rintro e w1 ⟨rfl, rfl⟩) | (go_at_call 33; refine (C35 _).mono ?_; rintro e w1 ⟨rfl, hb1⟩) | (go_at_call 110; refine (C34 _).mono ?_; rintro e w2 ⟨rfl, hb2⟩; obtain ⟨⟨c0, c1, c2, c3⟩, z0, z1, z2, z3⟩ := four_cells (hb1.trans (hb2.mono hb1.size))))
    exact bodyPost_ret (v := .tuple #[.agg #[.int .u64 v0, .int .u64 v1, .int .u64 v2, .int .u64 v3], .int .i64 0]) (by simp [results, Tryz.results88, go_sem, *]) rfl ⟨rfl, Bel.st (Bel.st (Bel.st (Bel.st (Bel.call (Bel.call (by go_grown) hb1) hb2) (Nat.le_refl _) _) (Nat.le_refl _) _) (Nat.le_refl _) _) (Nat.le_refl _) _⟩
  · have hz : (1 : Int) < (s.size : Int) := by omega
    generalize bt s 0 = x at *
    go_enter Tryz.func88, Tryz.ntmps88
    go_wp2_with (first | (go_at_call 109; refine (C33 _).mono ?_; rintro e w1 ⟨rfl, rfl⟩) | (go_at_call 33; refine (C35 _).mono ?_; rintro e w1 ⟨rfl, hb1⟩) | (go_at_call 110; refine (C34 _).mono ?_; rintro e w2 ⟨rfl, hb2⟩; obtain ⟨⟨c0, c1, c2, c3⟩, z0, z1, z2, z3⟩ := four_cells (hb1.trans (hb2.mono hb1.size))))
    exact bodyPost_ret (v := .tuple #[.agg #[.int .u64 v0, .int .u64 v1, .int .u64 v2, .int .u64 v3], .int .i64 0]) (by simp [results, Tryz.results88, go_sem, *]) rfl ⟨rfl, Bel.st (Bel.st (Bel.st (Bel.st (Bel.call (Bel.call (by go_grown) hb1) hb2) (Nat.le_refl _) _) (Nat.le_refl _) _) (Nat.le_refl _) _) (Nat.le_refl _) _⟩
  · have hz : (1 : Int) < (s.size : Int) := by omega
    have I1 := idx1 s h1
    have b1 := bt_bd s 1
    rw [h2] at I
    clear h2 h0 b0
    generalize bt s 1 = y at *
    go_enter Tryz.func88, Tryz.ntmps88
    go_wp2_with (first | (go_at_call 109; refine (C33 _).mono ?_; rintro e w1 ⟨rfl, rfl⟩) | (go_at_call 33; refine (C35 _).mono ?_; rintro e w1 ⟨rfl, hb1⟩) | (go_at_call 110; refine (C34 _).mono ?_; rintro e w2 ⟨rfl, hb2⟩; obtain ⟨⟨c0, c1, c2, c3⟩, z0, z1, z2, z3⟩ := four_cells (hb1.trans (hb2.mono hb1.size))))
    exact bodyPost_ret (v := .tuple #[.agg #[.int .u64 v0, .int .u64 v1, .int .u64 v2, .int .u64 v3], .int .i64 0]) (by simp [results, Tryz.results88, go_sem, *]) rfl ⟨rfl, Bel.st (Bel.st (Bel.st (Bel.st (Bel.call (Bel.call (by go_grown) hb1) hb2) (Nat.le_refl _) _) (Nat.le_refl _) _) (Nat.le_refl _) _) (Nat.le_refl _) _⟩
end Go.Proofs.YtjdpeedghpblgaaGreatDoor
