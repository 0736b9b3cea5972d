/- What sha.made answers: a text's whole blocks, one after the other. -/
import Derived.Test.YtfglpcfacjedmaaDoorC4
import Derived.Test.YtfglpcfacjedmaaDoorZ2
set_option linter.all false
set_option maxRecDepth 100000
namespace Go.Proofs.YtfglpcfacjedmaaDoor
open Go.RowKit Go.Shelf Go.Sort
attribute [local go_sem] Oper.semAt_some
theorem one_at (v : Value) (j : Nat) (hj : j < 1) : (#[v] : Array Value)[j]? = some v := by
  obtain rfl : j = 0 := by omega
  rfl
/-- Eight words are put into a block. -/
def st8 (w : World) (b : Nat) (g : Nat → Int) : World := ((((((((w.setCell ⟨b, 0, none⟩ (.int .u32 (g 0))).setCell ⟨b, 1, none⟩ (.int .u32 (g 1))).setCell ⟨b, 2, none⟩ (.int .u32 (g 2))).setCell ⟨b, 3, none⟩ (.int .u32 (g 3))).setCell ⟨b, 4, none⟩ (.int .u32 (g 4))).setCell ⟨b, 5, none⟩ (.int .u32 (g 5))).setCell ⟨b, 6, none⟩ (.int .u32 (g 6))).setCell ⟨b, 7, none⟩ (.int .u32 (g 7)))
theorem Arr.st8 {w : World} {b : Nat} {f : Nat → Value} (h : Arr w b 8 f) (g : Nat → Int) : Arr (st8 w b g) b 8 (fun j => .int .u32 (g j)) :=
  ((((((((h.set 0 (by omega) _).set 1 (by omega) _).set 2 (by omega) _).set 3 (by omega) _).set 4 (by omega) _).set 5 (by omega) _).set 6 (by omega) _).set 7 (by omega) _).congr (by
    intro j hj
    have : j = 0 ∨ j = 1 ∨ j = 2 ∨ j = 3 ∨ j = 4 ∨ j = 5 ∨ j = 6 ∨ j = 7 := by omega
    rcases this with rfl | rfl | rfl | rfl | rfl | rfl | rfl | rfl <;> simp)
theorem Arr.st8o {w : World} {b b' n : Nat} {f : Nat → Value} (h : Arr w b n f) (hne : b' ≠ b) (g : Nat → Int) : Arr (Go.Proofs.YtfglpcfacjedmaaDoor.st8 w b' g) b n f := (((((((h.other hne _).other hne _).other hne _).other hne _).other hne _).other hne _).other hne _).other hne _
theorem Bel.st8 {w W : World} (h : Below w.heap.size w W) {b : Nat} (hle : w.heap.size ≤ b) (g : Nat → Int) : Below w.heap.size w (Go.Proofs.YtfglpcfacjedmaaDoor.st8 W b g) := Bel.st (Bel.st (Bel.st (Bel.st (Bel.st (Bel.st (Bel.st (Bel.st h hle _) hle _) hle _) hle _) hle _) hle _) hle _) hle _
theorem ko_st8 (W : World) (b : Nat) (g : Nat → Int) : KeepsOthers W (st8 W b g) := (((((((KeepsOthers.setCell _ _ _).trans (KeepsOthers.setCell _ _ _)).trans (KeepsOthers.setCell _ _ _)).trans (KeepsOthers.setCell _ _ _)).trans (KeepsOthers.setCell _ _ _)).trans (KeepsOthers.setCell _ _ _)).trans (KeepsOthers.setCell _ _ _)).trans (KeepsOthers.setCell _ _ _)
theorem kb_st8 {b b' : Nat} (hne : b' ≠ b) (W : World) (g : Nat → Int) : KB b W (st8 W b' g) := fun f h => h.st8o hne g
set_option maxHeartbeats 4000000 in
theorem made_core (h : Nat → Int) (s : ByteArray) (hs : s.size ≤ 281474976710656) (V : Blk64 → Array Value) (f : (Nat → Int) → Blk64 → (Nat → Int)) (w : World) (hT : Tab w)
    (C37 : ∀ (x : Blk64) W, Calls Tryd.prog 75 #[.string x.1] W fun e w' => e = .returned (.agg (V x)) ∧ Below W.heap.size W w')
    (C36 : ∀ (x : Blk64) (y : Nat → Int) W, Tab W → Calls Tryd.prog 74 #[w8 y, .agg (V x)] W fun e w' => e = .returned (w8 (f y x)) ∧ Below W.heap.size W w')
    (g : Nat → Int) (hg : ∀ ys : List Blk64, ys.map (·.1) = upB s (s.size / 64) → ys.foldl f h = g) :
    Calls Tryd.prog 57 #[w8 h, .string s] w fun e w' => e = .returned (w8 g) ∧ Below w.heap.size w w' := by
  refine (callsIn_wide (n := 8)).1 ?_
  refine callsIn_of_wp_marks Tryd.func57 rfl trivial ?_ rfl
  unfold w8 at *
  simp only [Tryd.ntmps57, List.size_toArray, List.length_cons, List.length_nil, Nat.reduceAdd, Nat.reduceSub, Array.replicate_succ, Array.replicate_zero, List.push_toArray, List.append_toArray, List.nil_append, List.cons_append]
  gi_wp2_with (refine ⟨trivial, ?_⟩; gi_at_call 73; refine (callsIn_wide.2 (blocks_any s _)).mono ?_; rintro e w3 ⟨rfl, rfl⟩)
  have A0 : Arr ((((w.alloc (.cells #[.int .u32 (h 0), .int .u32 (h 1), .int .u32 (h 2), .int .u32 (h 3), .int .u32 (h 4), .int .u32 (h 5), .int .u32 (h 6), .int .u32 (h 7)] 68)).alloc (.cells #[.int .u32 0, .int .u32 0, .int .u32 0, .int .u32 0, .int .u32 0, .int .u32 0, .int .u32 0, .int .u32 0] 68)).alloc (.cells #[.string s] 9))) w.heap.size 8 (fun j => .int .u32 (h j)) := ((Arr.new w _ 68 _ rfl _ 8 (h8_at h)).al' _).al' _
  have A1 : Arr ((((w.alloc (.cells #[.int .u32 (h 0), .int .u32 (h 1), .int .u32 (h 2), .int .u32 (h 3), .int .u32 (h 4), .int .u32 (h 5), .int .u32 (h 6), .int .u32 (h 7)] 68)).alloc (.cells #[.int .u32 0, .int .u32 0, .int .u32 0, .int .u32 0, .int .u32 0, .int .u32 0, .int .u32 0, .int .u32 0] 68)).alloc (.cells #[.string s] 9))) (w.heap.size + 1) 8 (fun _ => .int .u32 0) := (Arr.new _ _ 68 _ (by simp) _ 8 z8_at).al' _
  have A2 : Arr ((((w.alloc (.cells #[.int .u32 (h 0), .int .u32 (h 1), .int .u32 (h 2), .int .u32 (h 3), .int .u32 (h 4), .int .u32 (h 5), .int .u32 (h 6), .int .u32 (h 7)] 68)).alloc (.cells #[.int .u32 0, .int .u32 0, .int .u32 0, .int .u32 0, .int .u32 0, .int .u32 0, .int .u32 0, .int .u32 0] 68)).alloc (.cells #[.string s] 9))) (w.heap.size + 1 + 1) 1 (fun _ => .string s) := Arr.new _ _ 9 _ (by simp) _ 1 (fun j hj => one_at _ j hj)
  have hB : Below w.heap.size w ((((w.alloc (.cells #[.int .u32 (h 0), .int .u32 (h 1), .int .u32 (h 2), .int .u32 (h 3), .int .u32 (h 4), .int .u32 (h 5), .int .u32 (h 6), .int .u32 (h 7)] 68)).alloc (.cells #[.int .u32 0, .int .u32 0, .int .u32 0, .int .u32 0, .int .u32 0, .int .u32 0, .int .u32 0, .int .u32 0] 68)).alloc (.cells #[.string s] 9))) := by go_grown
  refine wpIn_rangeFunc_cell rfl (by omega) (gf := 82) (lb := #[.pointer (some ⟨w.heap.size + 1 + 1, 0, none⟩)]) rfl trivial (enters_of Tryd.func82 (by kernel_rfl) rfl)
    (blocks_seq s hs _ (w.heap.size + 1 + 1) (by omega) _ A2) KB.t (fun W l o o' _ h1 h2 => KB.b W l o o' h1 h2) (Below.refl _ _) (fun _ => rfl)
    (fun pre W => (Arr W w.heap.size 8 (fun j => .int .u32 (pre.foldl f h j)) ∧ Arr W (w.heap.size + 1) 8 (fun _ => .int .u32 0)) ∧ Below w.heap.size w W)
    (OwnFrom.and (Own.from (fun s A B row hs hg hr => ⟨arr_kept hs.1 hg hr, arr_kept hs.2 hg hr⟩) _) (ownFrom_below (Nat.le_refl _) (by simp; omega)))
    (fun s A v hs => ⟨⟨hs.1.1.other (by omega) _, hs.1.2.other (by omega) _⟩, Bel.st hs.2 (by omega) _⟩)
    ⟨⟨A0, A1⟩, hB⟩
    (fun x => { tmps := #[.agg #[.int .u32 (h 0), .int .u32 (h 1), .int .u32 (h 2), .int .u32 (h 3), .int .u32 (h 4), .int .u32 (h 5), .int .u32 (h 6), .int .u32 (h 7)], .string s, .pointer (some ⟨w.heap.size, 0, none⟩), undef, .pointer (some ⟨w.heap.size + 1, 0, none⟩), .string x.1, .string s, .func (.func 82) #[] #[.pointer (some ⟨w.heap.size + 1 + 1, 0, none⟩)], .string x.1, undef, undef, undef, undef, undef], defers := [] }) ?assign ?body ?done
  case assign =>
    intro l x W K hK
    gi_wp2
    exact hK
  case body =>
    clear A0 A1 A2 hB hg
    rintro l pre x W ⟨⟨IS, IZ⟩, hB⟩ _
    have hd : 1 ≤ 8 - 1 - 1 := by omega
    have tR := fun ds os => (hT.bel hB).bel (below_regrown W ds os)
    obtain ⟨y, hy⟩ : ∃ y : Nat → Int, pre.foldl f h = y := ⟨_, rfl⟩
    have e2 : (pre ++ [x]).foldl f h = f y x := by rw [List.foldl_append, hy]; rfl
    rw [hy] at IS
    rw [e2]
    clear hy e2
    have r0 := fun ds os => cell_regrown (IS.c 0 (by omega)) ds os
    have r1 := fun ds os => cell_regrown (IS.c 1 (by omega)) ds os
    have r2 := fun ds os => cell_regrown (IS.c 2 (by omega)) ds os
    have r3 := fun ds os => cell_regrown (IS.c 3 (by omega)) ds os
    have r4 := fun ds os => cell_regrown (IS.c 4 (by omega)) ds os
    have r5 := fun ds os => cell_regrown (IS.c 5 (by omega)) ds os
    have r6 := fun ds os => cell_regrown (IS.c 6 (by omega)) ds os
    have r7 := fun ds os => cell_regrown (IS.c 7 (by omega)) ds os
    have c37 := C37 x
    have c36 := C36 x y
    generalize hq : f y x = q at *
    generalize V x = vx at *
    clear C37 C36 hq
    gi_wp2
    refine wpIn_region_below_tail 4 (by kernel_rfl) (by kernel_rfl) ?_
    simp only [List.take_succ_cons, List.take_zero, List.drop_succ_cons, List.drop_zero]
    repeat (go_big_quiet_step (first | (go_at_call 75; exact Calls.regrown_of (c37 _)) | (go_at_call 74; exact Calls.regrown_of (c36 _ (tR _ _)))))
    refine wpQuiet_nil ?_
    intro w1 hw'
    obtain ⟨⟨dq, osq⟩, hw''⟩ := hw'
    have hb := below_of hw''
    clear hw'' r0 r1 r2 r3 r4 r5 r6 r7 tR c37 c36
    have JS := IS.to' hb
    have JZ := IZ.to' hb
    have jB := Bel.call hB hb
    have cs := JS.c
    have zs := JS.z
    clear IS IZ hB
    gi_wp2
    exact ⟨(ko_below hb).trans (ko_st8 _ _ q), KB.t (kb_below hb) (kb_st8 (by omega) _ q), ⟨JS.st8 q, JZ.st8o (by omega) q⟩, Bel.st8 jB (Nat.le_refl _) q⟩
  case done =>
    clear A0 A1 A2 hB C36 C37
    rintro De ys W hD hS ⟨⟨IS, IZ⟩, hB⟩ hK
    rw [hg ys hS] at IS
    clear hg
    have cs := IS.c
    have cz := IZ.c
    have zz := IZ.z
    gi_wp2
    have hK' := (ko_st8 W (w.heap.size + 1) g).same De _ hK rfl
    have H6 := arr_kept (IZ.st8 g) (grownBy_putObj' _ De (.deferred none)) (fun r e => by cases e; exact ⟨_, hK', rfl⟩)
    refine ⟨by simp, .inl ⟨_, _, rfl, run_takeDeferred hK', ?_⟩⟩
    have ch := H6.c
    simp only [st8] at ch
    refine ⟨w8 g, by simp [w8, results, Tryd.results57, go_sem, ch], rfl, ?_⟩
    exact (Bel.st8 hB (by omega) g).trans (belowK_b (w := w) (Nat.le_refl _) _ De _ _ (by simp at hD; omega) hK' rfl rfl)
end Go.Proofs.YtfglpcfacjedmaaDoor
