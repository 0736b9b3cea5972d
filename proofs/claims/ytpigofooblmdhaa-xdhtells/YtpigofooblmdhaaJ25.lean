/- What mod.Pow answers, for any numbers. -/
import Derived.Test.YtpigofooblmdhaaJ16
set_option linter.all false
namespace Go.Proofs.Ytpigofooblmdhaa
open Go.RowKit Go.Shelf
attribute [local go_sem] Oper.semAt_some
def pv (l : List Bool) : Nat := l.foldl (fun a b => 2 * a + b.toNat) 0
theorem pv_snoc (l : List Bool) (b : Bool) : pv (l ++ [b]) = 2 * pv l + b.toNat := by simp [pv]
theorem ko_below {W W' : World} (hb : Below W.heap.size W W') : KeepsOthers W W' := KeepsOthers.of_grownBy (gby hb) (fun j o e _ => by cases e)
theorem ko_set4 (W : World) (b : Nat) (v0 v1 v2 v3 : Value) : KeepsOthers W ((((W.setCell ⟨b, 0, none⟩ v0).setCell ⟨b, 1, none⟩ v1).setCell ⟨b, 2, none⟩ v2).setCell ⟨b, 3, none⟩ v3) :=
  (((KeepsOthers.setCell _ _ _).trans (KeepsOthers.setCell _ _ _)).trans (KeepsOthers.setCell _ _ _)).trans (KeepsOthers.setCell _ _ _)
theorem kb_below {b : Nat} {W W' : World} (hb : Below W.heap.size W W') : KB b W W' := fun f h => h.below hb h.lt
theorem kb_set4 {b b' : Nat} (hne : b' ≠ b) (W : World) (v0 v1 v2 v3 : Value) : KB b W ((((W.setCell ⟨b', 0, none⟩ v0).setCell ⟨b', 1, none⟩ v1).setCell ⟨b', 2, none⟩ v2).setCell ⟨b', 3, none⟩ v3) := fun f h =>
  (((h.other hne _).other hne _).other hne _).other hne _
theorem oth4 {W : World} {b b' n : Nat} {f : Nat → Value} (h : Arr W b n f) (hne : b' ≠ b) (v0 v1 v2 v3 : Value) : Arr ((((W.setCell ⟨b', 0, none⟩ v0).setCell ⟨b', 1, none⟩ v1).setCell ⟨b', 2, none⟩ v2).setCell ⟨b', 3, none⟩ v3) b n f :=
  (((h.other hne _).other hne _).other hne _).other hne _
theorem bel4 {w W : World} (h : Below w.heap.size w W) {b : Nat} (hle : w.heap.size ≤ b) (v0 v1 v2 v3 : Value) : Below w.heap.size w ((((W.setCell ⟨b, 0, none⟩ v0).setCell ⟨b, 1, none⟩ v1).setCell ⟨b, 2, none⟩ v2).setCell ⟨b, 3, none⟩ v3) :=
  Bel.st (Bel.st (Bel.st (Bel.st h hle _) hle _) hle _) hle _
theorem arr_kept {W W' : World} {b n : Nat} {f : Nat → Value} {row : Option Nat} (h : Arr W b n f) (hg : W.grownBy W' row) (hr : ∀ r, row = some r → ∃ o : Obj, W.heap[r]? = some o ∧ o.isCells = false) : Arr W' b n f := fun j hj =>
  ⟨cell_kept (h j hj).1 hg hr, (frozen_kept (h j hj).1 hg hr).trans (h j hj).2⟩
theorem bv_t : bv true = .int .u64 1 := rfl
theorem bv_f : bv false = .int .u64 0 := rfl
attribute [local go_sem] bv_t bv_f
set_option maxRecDepth 100000 in
set_option maxHeartbeats 4000000 in
theorem pow_core (A E M : Int) (L : Nat) (f : List Bool → Int) (w : World) (hL : L ≤ 256)
    (B1 : ∀ W, Calls Try.prog 62 #[.agg #[.int .u64 1, .int .u64 0, .int .u64 0, .int .u64 0], nv M] W fun e w' => e = .returned (nv (f [])) ∧ Below W.heap.size W w')
    (M2 : ∀ pre W, Calls Try.prog 33 #[nv (f pre), nv (f pre), nv M] W fun e w' => e = .returned (nv (f (pre ++ [false]))) ∧ Below W.heap.size W w')
    (M3 : ∀ pre W, Calls Try.prog 33 #[nv (f (pre ++ [false])), nv A, nv M] W fun e w' => e = .returned (nv (f (pre ++ [true]))) ∧ Below W.heap.size W w')
    (CL : ∀ W, Calls Try.prog 59 #[nv E] W fun e w' => e = .returned (.int .i64 (L : Int)) ∧ Below W.heap.size W w')
    (CB : ∀ (k : Nat) W, k < 256 → Calls Try.prog 102 #[nv E, .int .i64 k] W fun e w' => e = .returned (bv (bitB E k)) ∧ Below W.heap.size W w') :
    Calls Try.prog 38 #[nv A, nv E, nv M] w fun e w' => e = .returned (nv (f (upto E L L))) ∧ Below w.heap.size w w' := by
  refine (callsIn_wide (n := 8)).1 ?_
  refine callsIn_of_wp_marks Try.func38 rfl trivial ?_ rfl
  simp only [Try.ntmps38, List.size_toArray, List.length_cons, List.length_nil, Nat.reduceAdd, Nat.reduceSub, Array.replicate_succ, Array.replicate_zero, List.push_toArray, List.append_toArray, List.nil_append, List.cons_append]
  gi_wp2_with (refine ⟨trivial, ?_⟩; gi_at_call 62; refine (callsIn_wide.2 (B1 _)).mono ?_; rintro e w1 ⟨rfl, hb1⟩; have P3 := (Arr.mk4 (f := fun j => .int .u64 (lim A j)) (b := w.heap.size) (by simp [go_sem]) (by simp [go_sem]) (by simp [go_sem]) (by simp [go_sem]) (by simp [go_sem]) (by simp [go_sem]) (by simp [go_sem]) (by simp [go_sem]) ).below hb1 (by go_size); have P4 := (Arr.mk4 (f := fun j => .int .u64 (lim E j)) (b := w.heap.size + 1) (by simp [go_sem]) (by simp [go_sem]) (by simp [go_sem]) (by simp [go_sem]) (by simp [go_sem]) (by simp [go_sem]) (by simp [go_sem]) (by simp [go_sem]) ).below hb1 (by go_size); have P5 := (Arr.mk4 (f := fun j => .int .u64 (lim M j)) (b := w.heap.size + 1 + 1) (by simp [go_sem]) (by simp [go_sem]) (by simp [go_sem]) (by simp [go_sem]) (by simp [go_sem]) (by simp [go_sem]) (by simp [go_sem]) (by simp [go_sem]) ).below hb1 (by go_size); have P6 := (Arr.mk4 (f := fun _ => .int .u64 0) (b := w.heap.size + 1 + 1 + 1) (by simp [go_sem]) (by simp [go_sem]) (by simp [go_sem]) (by simp [go_sem]) (by simp [go_sem]) (by simp [go_sem]) (by simp [go_sem]) (by simp [go_sem]) ).below hb1 (by go_size); have s1 : w.heap.size + 1 + 1 + 1 < w1.heap.size := (by have := hb1.size; simp at this; omega); have hB1 : Below w.heap.size w w1 := Below.trans (by go_grown) (hb1.mono (by go_size)); have c4 : ∀ o1 j, j < 4 → (w1.alloc o1).cell? ⟨w.heap.size + 1, j, none⟩ = some (.int .u64 (lim E j)) := fun o1 j hj => (P4.alloc (by omega) o1).c j hj)
  clear hb1 P4
  refine ⟨trivial, ?_⟩
  gi_at_call 70
  refine (callsIn_wide.2 (bits_any E _)).mono ?_
  rintro e w2 ⟨rfl, rfl⟩
  gi_wp2
  have Q3 := (P3.alloc (by omega) (.cells #[.int .u64 (lim (f []) 0), .int .u64 (lim (f []) 1), .int .u64 (lim (f []) 2), .int .u64 (lim (f []) 3)] 24)).alloc (by go_size) (.cells #[.int .u64 (lim E 0), .int .u64 (lim E 1), .int .u64 (lim E 2), .int .u64 (lim E 3)] 24)
  have Q5 := (P5.alloc (by omega) (.cells #[.int .u64 (lim (f []) 0), .int .u64 (lim (f []) 1), .int .u64 (lim (f []) 2), .int .u64 (lim (f []) 3)] 24)).alloc (by go_size) (.cells #[.int .u64 (lim E 0), .int .u64 (lim E 1), .int .u64 (lim E 2), .int .u64 (lim E 3)] 24)
  have Q6 := (P6.alloc (by omega) (.cells #[.int .u64 (lim (f []) 0), .int .u64 (lim (f []) 1), .int .u64 (lim (f []) 2), .int .u64 (lim (f []) 3)] 24)).alloc (by go_size) (.cells #[.int .u64 (lim E 0), .int .u64 (lim E 1), .int .u64 (lim E 2), .int .u64 (lim E 3)] 24)
  have QE : Arr ((w1.alloc (.cells #[.int .u64 (lim (f []) 0), .int .u64 (lim (f []) 1), .int .u64 (lim (f []) 2), .int .u64 (lim (f []) 3)] 24)).alloc (.cells #[.int .u64 (lim E 0), .int .u64 (lim E 1), .int .u64 (lim E 2), .int .u64 (lim E 3)] 24)) (w1.heap.size + 1) 4 (fun j => .int .u64 (lim E j)) := Arr.mk4 (by simp [go_sem]) (by simp [go_sem]) (by simp [go_sem]) (by simp [go_sem]) (by simp [go_sem]) (by simp [go_sem]) (by simp [go_sem]) (by simp [go_sem])
  have Q7 : Arr ((w1.alloc (.cells #[.int .u64 (lim (f []) 0), .int .u64 (lim (f []) 1), .int .u64 (lim (f []) 2), .int .u64 (lim (f []) 3)] 24)).alloc (.cells #[.int .u64 (lim E 0), .int .u64 (lim E 1), .int .u64 (lim E 2), .int .u64 (lim E 3)] 24)) w1.heap.size 4 (fun j => .int .u64 (lim (f []) j)) := Arr.mk4 (by simp [go_sem]) (by simp [go_sem]) (by simp [go_sem]) (by simp [go_sem]) (by simp [go_sem]) (by simp [go_sem]) (by simp [go_sem]) (by simp [go_sem])
  have hB2 := (hB1.alloc (by omega) (.cells #[.int .u64 (lim (f []) 0), .int .u64 (lim (f []) 1), .int .u64 (lim (f []) 2), .int .u64 (lim (f []) 3)] 24)).alloc (by go_size) (.cells #[.int .u64 (lim E 0), .int .u64 (lim E 1), .int .u64 (lim E 2), .int .u64 (lim E 3)] 24)
  clear P3 P5 P6 hB1 c4 B1
  refine wpIn_rangeFunc_ownF rfl (by omega) (gf := 101) (lb := #[.pointer (some ⟨w1.heap.size + 1, 0, none⟩)]) rfl trivial (enters_of Try.func101 (by kernel_rfl) rfl)
    (bits_seq E L _ (w1.heap.size + 1) (by omega) hL _ CL CB QE) KB.t (fun W l o o' _ h1 h2 _ => KB.b W l o o' h1 h2) (Below.refl _ _) (fun _ => rfl)
    (fun pre W => (Arr W w.heap.size 4 (fun j => .int .u64 (lim A j)) ∧ Arr W (w.heap.size + 1 + 1) 4 (fun j => .int .u64 (lim M j)) ∧ Arr W w1.heap.size 4 (fun j => .int .u64 (lim (f pre) j)) ∧ Arr W (w.heap.size + 1 + 1 + 1) 4 (fun _ => .int .u64 0)) ∧ Below w.heap.size w W)
    (fun _ _ _ => False)
    (OwnFrom.and (Own.from (fun s A B row hs hg hr => ⟨arr_kept hs.1 hg hr, arr_kept hs.2.1 hg hr, arr_kept hs.2.2.1 hg hr, arr_kept hs.2.2.2 hg hr⟩) _) (ownFrom_below (Nat.le_refl _) (by simp; omega)))
    (fun _ _ _ _ _ hs _ _ => hs)
    ⟨⟨Q3, Q5, Q7, Q6⟩, hB2⟩
    (fun x => { tmps := #[nv A, nv E, nv M, .pointer (some ⟨w.heap.size, 0, none⟩), .pointer (some ⟨w.heap.size + 1, 0, none⟩), .pointer (some ⟨w.heap.size + 1 + 1, 0, none⟩), .pointer (some ⟨w.heap.size + 1 + 1 + 1, 0, none⟩), .pointer (some ⟨w1.heap.size, 0, none⟩), bv x, .agg #[.int .u64 1, .int .u64 0, .int .u64 0, .int .u64 0], nv M, nv (f []), nv E, .func (.func 101) #[] #[.pointer (some ⟨w1.heap.size + 1, 0, none⟩)], bv x, undef, undef, undef, undef, undef, undef, undef, undef, undef, undef, undef], defers := [] }) ?assign ?body ?done ?stop
  case assign =>
    intro l x W K hK
    gi_wp2
    exact hK
  case body =>
    clear Q3 Q5 Q6 QE Q7 hB2 CL CB
    rintro l pre x W ⟨⟨I3, I5, I7, I6⟩, hB⟩ _
    have d1 := I3.c
    have d5 := I5.c
    have d7 := I7.c
    have m2 := fun W => M2 pre W
    have m3 := fun W => M3 pre W
    clear M2 M3
    have hd : 1 ≤ 8 - 1 - 1 := by omega
    cases x
    · gi_wp2_with (refine ⟨trivial, ?_⟩; gi_at_call 33; refine (CallsIn.inRound l (callsIn_wide.2 (m2 _))).mono ?_; rintro e wa ⟨rfl, hba⟩; have J3 := I3.below hba I3.lt; have J5 := I5.below hba I5.lt; have J7 := I7.below hba I7.lt; have J6 := I6.below hba I6.lt; have e7 := J7.c; have z7 := J7.z)
      refine ⟨(ko_below hba).trans (ko_set4 _ _ _ _ _ _), KB.t (kb_below hba) (kb_set4 (by omega) _ _ _ _ _), ⟨oth4 J3 (by omega) _ _ _ _, oth4 J5 (by omega) _ _ _ _, set4 J7 _ _ _ _ _ rfl rfl rfl rfl, oth4 J6 (by omega) _ _ _ _⟩, bel4 (Bel.call hB hba) (by omega) _ _ _ _⟩
    · gi_wp2_with (first | (refine ⟨trivial, ?_⟩; gi_at_call 33; refine (CallsIn.inRound l (callsIn_wide.2 (m2 _))).mono ?_; clear m2; rintro e wa ⟨rfl, hba⟩; have J3 := I3.below hba I3.lt; have J5 := I5.below hba I5.lt; have J7 := I7.below hba I7.lt; have J6 := I6.below hba I6.lt; have e7 := J7.c; have z7 := J7.z; have e3 : ∀ v0 v1 v2 v3 j, j < 4 → ((((wa.setCell ⟨w1.heap.size, 0, none⟩ v0).setCell ⟨w1.heap.size, 1, none⟩ v1).setCell ⟨w1.heap.size, 2, none⟩ v2).setCell ⟨w1.heap.size, 3, none⟩ v3).cell? ⟨w.heap.size, j, none⟩ = some (.int .u64 (lim A j)) := fun v0 v1 v2 v3 j hj => ((((J3.other (by omega) v0).other (by omega) v1).other (by omega) v2).other (by omega) v3).c j hj; have e5 : ∀ v0 v1 v2 v3 j, j < 4 → ((((wa.setCell ⟨w1.heap.size, 0, none⟩ v0).setCell ⟨w1.heap.size, 1, none⟩ v1).setCell ⟨w1.heap.size, 2, none⟩ v2).setCell ⟨w1.heap.size, 3, none⟩ v3).cell? ⟨w.heap.size + 1 + 1, j, none⟩ = some (.int .u64 (lim M j)) := fun v0 v1 v2 v3 j hj => ((((J5.other (by omega) v0).other (by omega) v1).other (by omega) v2).other (by omega) v3).c j hj) | (refine ⟨trivial, ?_⟩; gi_at_call 33; refine (CallsIn.inRound l (callsIn_wide.2 (m3 _))).mono ?_; rintro e wb ⟨rfl, hbb⟩; have G7 := (set4 J7 _ _ _ _ (fun j => .int .u64 (lim (f (pre ++ [false])) j)) rfl rfl rfl rfl); have H7 := G7.below hbb G7.lt; have f7 := H7.c; have y7 := H7.z))
      have G3 := oth4 J3 (b' := w1.heap.size) (by omega) (.int .u64 (lim (f (pre ++ [false])) 0)) (.int .u64 (lim (f (pre ++ [false])) 1)) (.int .u64 (lim (f (pre ++ [false])) 2)) (.int .u64 (lim (f (pre ++ [false])) 3))
      have G5 := oth4 J5 (b' := w1.heap.size) (by omega) (.int .u64 (lim (f (pre ++ [false])) 0)) (.int .u64 (lim (f (pre ++ [false])) 1)) (.int .u64 (lim (f (pre ++ [false])) 2)) (.int .u64 (lim (f (pre ++ [false])) 3))
      have G6 := oth4 J6 (b' := w1.heap.size) (by omega) (.int .u64 (lim (f (pre ++ [false])) 0)) (.int .u64 (lim (f (pre ++ [false])) 1)) (.int .u64 (lim (f (pre ++ [false])) 2)) (.int .u64 (lim (f (pre ++ [false])) 3))
      have H3 := G3.below hbb G3.lt
      have H5 := G5.below hbb G5.lt
      have H6 := G6.below hbb G6.lt
      refine ⟨(((ko_below hba).trans (ko_set4 _ _ _ _ _ _)).trans (ko_below hbb)).trans (ko_set4 _ _ _ _ _ _), KB.t (KB.t (KB.t (kb_below hba) (kb_set4 (by omega) _ _ _ _ _)) (kb_below hbb)) (kb_set4 (by omega) _ _ _ _ _), ⟨oth4 H3 (by omega) _ _ _ _, oth4 H5 (by omega) _ _ _ _, set4 H7 _ _ _ _ _ rfl rfl rfl rfl, oth4 H6 (by omega) _ _ _ _⟩, bel4 (Bel.call (bel4 (Bel.call hB hba) (by omega) _ _ _ _) hbb) (by omega) _ _ _ _⟩
  case done =>
    clear Q3 Q5 Q6 QE Q7 hB2 CL CB M2 M3
    rintro D ys W hD rfl ⟨⟨I3, I5, I7, I6⟩, hB⟩ hK
    have d7 := I7.c
    have d6 := I6.c
    have z6 := I6.z
    gi_wp2
    have hK' := (ko_set4 W (w.heap.size + 1 + 1 + 1) (.int .u64 (lim (f (upto E L L)) 0)) (.int .u64 (lim (f (upto E L L)) 1)) (.int .u64 (lim (f (upto E L L)) 2)) (.int .u64 (lim (f (upto E L L)) 3))).same D _ hK rfl
    have G6 := set4 I6 (.int .u64 (lim (f (upto E L L)) 0)) (.int .u64 (lim (f (upto E L L)) 1)) (.int .u64 (lim (f (upto E L L)) 2)) (.int .u64 (lim (f (upto E L L)) 3)) (fun j => .int .u64 (lim (f (upto E L L)) j)) rfl rfl rfl rfl
    have H6 := arr_kept G6 (grownBy_putObj' _ D (.deferred none)) (fun r e => by cases e; exact ⟨_, hK', rfl⟩)
    refine ⟨by simp, .inl ⟨_, _, rfl, run_takeDeferred hK', ?_⟩⟩
    have c6 := H6.c
    refine ⟨nv (f (upto E L L)), by simp [results, Try.results38, go_sem, c6], rfl, ?_⟩
    exact (bel4 hB (b := w.heap.size + 1 + 1 + 1) (by omega) _ _ _ _).trans (belowK_b (w := w) (Nat.le_refl _) _ D _ _ (by simp at hD; omega) hK' rfl rfl)
  case stop =>
    rintro D c pre W _ _ h _
    exact h.elim
end Go.Proofs.Ytpigofooblmdhaa
