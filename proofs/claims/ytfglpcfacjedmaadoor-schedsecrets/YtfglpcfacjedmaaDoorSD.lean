/- sched.Master. -/
import Derived.Test.YtfglpcfacjedmaaDoorSC
set_option linter.all false
set_option maxRecDepth 100000
namespace Go.Proofs.YtfglpcfacjedmaaDoor
open Go.RowKit Go.Sort
def g3 (a b c : ByteArray) : Nat → ByteArray
  | 0 => a
  | 1 => b
  | _ => c
theorem g3_at (a b c : ByteArray) (j : Nat) (hj : j < 3) : (#[.string a, .string b, .string c] : Array Value)[j]? = some (.string (g3 a b c j)) := by
  match j, hj with
  | 0, _ => rfl
  | 1, _ => rfl
  | 2, _ => rfl
set_option maxHeartbeats 2000000 in
theorem mast_no (x0 x1 x2 x3 b : ByteArray) (w : World)
    (C17 : ∀ W : World, Calls Tryd.prog 17 #[.slice (some ⟨W.heap.size, 0, none⟩) 2 2] (W.alloc (.cells #[.string x0, .string b] 9)) fun e w' => e = .returned (.bool false) ∧ w' = W.alloc (.cells #[.string x0, .string b] 9)) :
    Calls Tryd.prog 8 #[sec x0 x1 x2 x3, .string b] w fun e w' => e = .returned (.tuple #[sec ⟨#[]⟩ ⟨#[]⟩ ⟨#[]⟩ ⟨#[]⟩, .int .i64 10]) ∧ Below w.heap.size w w' := by
  unfold sec
  have C := C17 ((w.alloc (.cells #[.string x0, .string x1, .string x2, .string x3] 23)).alloc (.cells #[.string ⟨#[]⟩, .string ⟨#[]⟩, .string ⟨#[]⟩, .string ⟨#[]⟩] 23))
  rw [World.size_alloc, World.size_alloc] at C
  go_enter Tryd.func8, Tryd.ntmps8
  go_wp2_with (go_at_call 17; refine C.mono ?_; rintro e w1 ⟨rfl, rfl⟩)
  refine bodyPost_ret (v := .tuple #[.agg #[.string ⟨#[]⟩, .string ⟨#[]⟩, .string ⟨#[]⟩, .string ⟨#[]⟩], .int .i64 10]) (by simp [results, Tryd.results8, go_sem]) rfl ⟨rfl, ?_⟩
  go_grown
set_option maxHeartbeats 4000000 in
theorem mast_yes (x0 x1 x2 x3 b Z B X Y U : ByteArray) (w : World) (hT : Tab w)
    (C17 : ∀ W : World, Calls Tryd.prog 17 #[.slice (some ⟨W.heap.size, 0, none⟩) 2 2] (W.alloc (.cells #[.string x0, .string b] 9)) fun e w' => e = .returned (.bool true) ∧ w' = W.alloc (.cells #[.string x0, .string b] 9))
    (C24 : ∀ W, Calls Tryd.prog 24 #[] W fun e w' => e = .returned (.string Z) ∧ Below W.heap.size W w')
    (C18 : ∀ W, Tab W → Calls Tryd.prog 18 #[.string x0, .string Z, .string b] W fun e w' => e = .returned (mkr B b) ∧ Below W.heap.size W w')
    (C20 : ∀ W q, Tab W → Arr W q 3 (fun j => .string (g3 ⟨#[99, 32, 97, 112, 32, 116, 114, 97, 102, 102, 105, 99]⟩ ⟨#[115, 32, 97, 112, 32, 116, 114, 97, 102, 102, 105, 99]⟩ ⟨#[101, 120, 112, 32, 109, 97, 115, 116, 101, 114]⟩ j)) →
      Calls Tryd.prog 20 #[mkr B b, .slice (some ⟨q, 0, none⟩) 3 3] W fun e w' => ∃ p cap, e = .returned (.slice (some ⟨p, 0, none⟩) 3 cap) ∧ W.heap.size ≤ p ∧ (w'.cell? ⟨p, 0, none⟩ = some (.string X) ∧ w'.cell? ⟨p, 1, none⟩ = some (.string Y) ∧ w'.cell? ⟨p, 2, none⟩ = some (.string U)) ∧ Below W.heap.size W w') :
    Calls Tryd.prog 8 #[sec x0 x1 x2 x3, .string b] w fun e w' => e = .returned (.tuple #[sec B X Y U, .int .i64 0]) ∧ Below w.heap.size w w' := by
  unfold sec mkr at *
  have C := C17 ((w.alloc (.cells #[.string x0, .string x1, .string x2, .string x3] 23)).alloc (.cells #[.string ⟨#[]⟩, .string ⟨#[]⟩, .string ⟨#[]⟩, .string ⟨#[]⟩] 23))
  rw [World.size_alloc, World.size_alloc] at C
  go_enter Tryd.func8, Tryd.ntmps8
  go_wp2_with (go_at_call 17; refine C.mono ?_; rintro e w1 ⟨rfl, rfl⟩)
  generalize hW : World.alloc (World.alloc (World.alloc _ _) _) _ = W1
  have AX : Arr W1 w.heap.size 4 (sx x0 x1 x2 x3) := by
    rw [← hW]
    exact ((Arr.new _ _ _ _ rfl _ 4 (sx_at _ _ _ _)).al' _).al' _
  have A0 : Arr W1 (w.heap.size + 1) 4 (sx ⟨#[]⟩ ⟨#[]⟩ ⟨#[]⟩ ⟨#[]⟩) := by
    rw [← hW]
    exact (Arr.new _ _ _ _ (by simp) _ 4 (sx_at _ _ _ _)).al' _
  have B0 : Below w.heap.size w W1 := by rw [← hW]; go_grown
  have s0 : w.heap.size + 1 < W1.heap.size := by rw [← hW]; simp
  have T0 := hT.to B0
  clear hW C C17
  apply wp_region_alloc_tail 5 (by kernel_rfl) (by kernel_rfl) (by kernel_rfl) (.cells #[.string ⟨#[]⟩, .string ⟨#[]⟩, .string ⟨#[]⟩, .string ⟨#[]⟩, .string ⟨#[]⟩] 51) _ rfl (fun _ _ => by simp [go_sem])
  · intro V hV
    have tR := fun ds os => (T0.bel hV).bel (below_regrown V ds os)
    obtain ⟨⟨k0, k1, k2, k3⟩, y0, y1, y2, y3⟩ := (AX.to' hV).four
    have r0 := fun ds os => cell_regrown k0 ds os
    clear k0 k1 k2 k3 y0 y1 y2 y3
    simp only [List.take_succ_cons, List.take_zero]
    repeat (go_big_quiet_step (first | (go_at_call 24; exact Calls.regrown_of (C24 _)) | (go_at_call 18; exact Calls.regrown_of (C18 _ (tR _ _)))))
    exact wpQuiet_nil rfl
  intro u1 w2 hb1 hb2
  simp only [List.drop_succ_cons, List.drop_zero, Act.put, List.setIfInBounds_toArray, List.set_cons_succ, List.set_cons_zero]
  have B1 := Bel.call B0 hb1
  have AM := (Arr.new u1 #[.string ⟨#[]⟩, .string ⟨#[]⟩, .string ⟨#[]⟩, .string ⟨#[]⟩, .string ⟨#[]⟩] 51 _ rfl _ 5 (mx_at _ _ _ _ _)).to' hb2
  have B2 := Bel.call (Bel.al B1 (.cells #[.string ⟨#[]⟩, .string ⟨#[]⟩, .string ⟨#[]⟩, .string ⟨#[]⟩, .string ⟨#[]⟩] 51)) hb2
  have A0 := ((A0.to' hb1).al' (.cells #[.string ⟨#[]⟩, .string ⟨#[]⟩, .string ⟨#[]⟩, .string ⟨#[]⟩, .string ⟨#[]⟩] 51)).to' hb2
  have s1 : w.heap.size + 1 < u1.heap.size := Nat.lt_of_lt_of_le s0 hb1.size
  have s2 : u1.heap.size < w2.heap.size := by have := hb2.size; simp at this; omega
  clear hb1 hb2 B1 C24 C18 T0 B0 AX s0
  obtain ⟨⟨k0, k1, k2, k3, k4⟩, z0, z1, z2, z3, z4⟩ := AM.five
  go_wp2_with fail
  have n0 : ¬ u1.heap.size = w.heap.size + 1 := by omega
  have le : w.heap.size ≤ u1.heap.size := by omega
  have AM := ((((AM.set 0 (by omega) (.string B)).set 1 (by omega) (.string ⟨#[]⟩)).set 2 (by omega) (.string ⟨#[]⟩)).set 3 (by omega) (.string ⟨#[]⟩)).set 4 (by omega) (.string b)
  have A0 := ((((A0.other (k := 0) n0 (.string B)).other (k := 1) n0 (.string ⟨#[]⟩)).other (k := 2) n0 (.string ⟨#[]⟩)).other (k := 3) n0 (.string ⟨#[]⟩)).other (k := 4) n0 (.string b)
  have B3 : Below w.heap.size w (((((w2.setCell ⟨u1.heap.size, 0, none⟩ (.string B)).setCell ⟨u1.heap.size, 1, none⟩ (.string ⟨#[]⟩)).setCell ⟨u1.heap.size, 2, none⟩ (.string ⟨#[]⟩)).setCell ⟨u1.heap.size, 3, none⟩ (.string ⟨#[]⟩)).setCell ⟨u1.heap.size, 4, none⟩ (.string b)) := by go_grown
  have s3 : u1.heap.size < (((((w2.setCell ⟨u1.heap.size, 0, none⟩ (.string B)).setCell ⟨u1.heap.size, 1, none⟩ (.string ⟨#[]⟩)).setCell ⟨u1.heap.size, 2, none⟩ (.string ⟨#[]⟩)).setCell ⟨u1.heap.size, 3, none⟩ (.string ⟨#[]⟩)).setCell ⟨u1.heap.size, 4, none⟩ (.string b)).heap.size := by simpa using s2
  have es : w2.heap.size = (((((w2.setCell ⟨u1.heap.size, 0, none⟩ (.string B)).setCell ⟨u1.heap.size, 1, none⟩ (.string ⟨#[]⟩)).setCell ⟨u1.heap.size, 2, none⟩ (.string ⟨#[]⟩)).setCell ⟨u1.heap.size, 3, none⟩ (.string ⟨#[]⟩)).setCell ⟨u1.heap.size, 4, none⟩ (.string b)).heap.size := by simp
  rw [es]
  generalize ((((w2.setCell ⟨u1.heap.size, 0, none⟩ (.string B)).setCell ⟨u1.heap.size, 1, none⟩ (.string ⟨#[]⟩)).setCell ⟨u1.heap.size, 2, none⟩ (.string ⟨#[]⟩)).setCell ⟨u1.heap.size, 3, none⟩ (.string ⟨#[]⟩)).setCell ⟨u1.heap.size, 4, none⟩ (.string b) = w3 at *
  have AM : Arr w3 u1.heap.size 5 (mx B ⟨#[]⟩ ⟨#[]⟩ ⟨#[]⟩ b) := AM.congr (fun j hj => by
    match j, hj with
    | 0, _ => rfl
    | 1, _ => rfl
    | 2, _ => rfl
    | 3, _ => rfl
    | 4, _ => rfl)
  clear B2 s2 k0 k1 k2 k3 k4 z0 z1 z2 z3 z4 es
  have AL := Arr.new w3 #[.string ⟨#[99, 32, 97, 112, 32, 116, 114, 97, 102, 102, 105, 99]⟩, .string ⟨#[115, 32, 97, 112, 32, 116, 114, 97, 102, 102, 105, 99]⟩, .string ⟨#[101, 120, 112, 32, 109, 97, 115, 116, 101, 114]⟩] 9 _ rfl _ 3 (g3_at _ _ _)
  have A0 := A0.al' (.cells #[.string ⟨#[99, 32, 97, 112, 32, 116, 114, 97, 102, 102, 105, 99]⟩, .string ⟨#[115, 32, 97, 112, 32, 116, 114, 97, 102, 102, 105, 99]⟩, .string ⟨#[101, 120, 112, 32, 109, 97, 115, 116, 101, 114]⟩] 9)
  have AM := AM.al' (.cells #[.string ⟨#[99, 32, 97, 112, 32, 116, 114, 97, 102, 102, 105, 99]⟩, .string ⟨#[115, 32, 97, 112, 32, 116, 114, 97, 102, 102, 105, 99]⟩, .string ⟨#[101, 120, 112, 32, 109, 97, 115, 116, 101, 114]⟩] 9)
  have B4 := Bel.al B3 (.cells #[.string ⟨#[99, 32, 97, 112, 32, 116, 114, 97, 102, 102, 105, 99]⟩, .string ⟨#[115, 32, 97, 112, 32, 116, 114, 97, 102, 102, 105, 99]⟩, .string ⟨#[101, 120, 112, 32, 109, 97, 115, 116, 101, 114]⟩] 9)
  have T4 := hT.to B4
  refine (C20 _ _ T4 AL).mono ?_
  rintro e w4 ⟨p, cap, rfl, hp, ⟨c0, c1, c2⟩, hb⟩
  have hp : w3.heap.size < p := by simp at hp; omega
  have A0 := A0.to' hb
  have AM := AM.to' hb
  have B5 := Bel.call B4 hb
  clear hb C20 B3 B4 T4 AL hT
  obtain ⟨⟨k0, k1, k2, k3, k4⟩, z0, z1, z2, z3, z4⟩ := AM.five
  obtain ⟨⟨j0, j1, j2, j3⟩, y0, y1, y2, y3⟩ := A0.four
  clear A0 AM
  have n2 : ¬ p = u1.heap.size := by omega
  have n3 : ¬ p = w.heap.size + 1 := by omega
  go_wp2_with fail
  go_region_held3 (fun w' => w'.cell? ⟨p, 0, none⟩ = some (.string X) ∧ w'.cell? ⟨p, 1, none⟩ = some (.string Y) ∧ w'.cell? ⟨p, 2, none⟩ = some (.string U)) (simp [go_sem, c0, c1, c2, n2]) (fail)
  go_wp2_with fail
  refine bodyPost_ret (v := .tuple #[.agg #[.string B, .string X, .string Y, .string U], .int .i64 0]) (by simp [results, Tryd.results8, go_sem, j0, j1, j2, j3]) rfl ⟨rfl, ?_⟩
  go_grown
end Go.Proofs.YtfglpcfacjedmaaDoor
