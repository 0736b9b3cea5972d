/- The hash of two texts by a block. -/
import Derived.Test.YtjaljnfijhfkcaaGreatDoorJ16
import Derived.Test.YtjaljnfijhfkcaaGreatDoorJ25
import Derived.Test.YtjaljnfijhfkcaaGreatDoorJ22
set_option linter.all false
set_option maxRecDepth 100000
namespace Go.Proofs.YtjaljnfijhfkcaaGreatDoor
open Go.RowKit Go.Shelf Go.Sort Lin
attribute [local go_sem] Oper.semAt_some
/-- Blocks hashed. -/
def hF (h : Nat) (xs : List Nat) : Nat := xs.foldl (fun c x => tB (c ^^^ x) h) 0
theorem hF_app (h : Nat) (xs : List Nat) (x : Nat) : hF h (xs ++ [x]) = tB (hF h xs ^^^ x) h := by unfold hF; rw [List.foldl_append]; rfl
theorem hF_lt {h : Nat} (hh : h < 2 ^ 128) (xs : List Nat) : hF h xs < 2 ^ 128 := by
  rcases List.eq_nil_or_concat xs with rfl | ⟨l, x, rfl⟩
  · exact Nat.two_pow_pos 128
  · rw [List.concat_eq_append, hF_app]; exact tB_lt hh
/-- What the rounds keep. -/
structure IH (w : World) (q0 q1 q2 : Nat) (x y u v : Int) (W : World) : Prop where
  b : Below w.heap.size w W
  p : Arr W q0 2 (g2 x y)
  z : Arr W q1 2 (g2 0 0)
  s : Arr W q2 2 (g2 u v)
def IHx (w : World) (q0 q1 q2 : Nat) (h : Nat) (pre : List Nat) (W : World) : Prop := IH w q0 q1 q2 (hi h) (lo h) (hi (hF h pre)) (lo (hF h pre)) W
theorem bel_of {w W : World} (hg : w.grownBy W none) : Below w.heap.size w W := ⟨hg.os, hg.tape, hg.output, hg.size, fun k hk => hg.block k hk (by intro e; cases e)⟩
theorem IH.own {w A A' : World} {q0 q1 q2 : Nat} {x y u v : Int} {row : Option Nat} (h : IH w q0 q1 q2 x y u v A) (hg : A.grownBy A' row) (hr : ∀ r, row = some r → w.heap.size ≤ r ∧ ∃ o : Obj, A.heap[r]? = some o ∧ o.isCells = false) : IH w q0 q1 q2 x y u v A' := by
  obtain ⟨h1, h2, h3, h4⟩ := h
  have hr' : ∀ r, row = some r → ∃ o : Obj, A.heap[r]? = some o ∧ o.isCells = false := fun r e => (hr r e).2
  refine ⟨?_, arr_kept h2 hg hr', arr_kept h3 hg hr', arr_kept h4 hg hr'⟩
  cases row with
  | none => exact Bel.call h1 (bel_of hg)
  | some r => exact bel_of (gb_new (gby h1) (hr r rfl).1 hg)
theorem IHx_own (w : World) (q0 q1 q2 h B : Nat) (hB : w.heap.size ≤ B) : OwnFrom B (IHx w q0 q1 q2 h) :=
  fun s A A' row h hg hr => IH.own h hg (fun r e => ⟨Nat.le_trans hB (hr r e).1, (hr r e).2⟩)
theorem Lt_own (B : Nat) : OwnFrom B (fun (s : List Nat × Nat) (W : World) => s.2 < 2 ^ 128) := fun s A A' row h _ _ => h
theorem Tr_own (B : Nat) : OwnFrom B (fun (_ : Unit) (W : World) => True) := fun _ _ _ _ _ _ _ => trivial
theorem KC.st2 {q : Nat} (W : World) (x y : Int) : KC q q q W (st2 W q x y) := KC.t (KC.one (gb_set _ _ _ _) (.inl rfl)) (KC.one (gb_set _ _ _ _) (.inl rfl))
set_option maxHeartbeats 1000000 in
theorem hashed_core (a s : ByteArray) (ha : a.size ≤ 1000000) (hs : s.size ≤ 1000000) (h : Nat) (hh : h < 2 ^ 128) (w : World) :
    Calls Tryz.prog 78 #[gB h, .string a, .string s] w fun e w' => e = .returned (gB (hF h (hBl a s))) ∧ Below w.heap.size w w' := by
  refine (callsIn_wide (n := 8)).1 ?_
  refine callsIn_of_wp_marks Tryz.func78 rfl trivial ?_ rfl
  unfold gB gk
  obtain ⟨x, hx⟩ : ∃ x, hi h = x := ⟨_, rfl⟩
  obtain ⟨y, hy⟩ : ∃ y, lo h = y := ⟨_, rfl⟩
  have HX : Hid (hi h = x ∧ lo h = y) := ⟨hx, hy⟩
  rw [hx, hy]
  clear hx hy
  simp only [Tryz.ntmps78, List.size_toArray, List.length_cons, List.length_nil, Nat.reduceAdd, Nat.reduceSub, Array.replicate_succ, Array.replicate_zero, List.push_toArray, List.append_toArray, List.nil_append, List.cons_append]
  gi_wp2_with (refine ⟨trivial, ?_⟩; gi_at_call 101; refine (callsIn_wide.2 (gblocks_any a s _)).mono ?_; rintro e w3 ⟨rfl, rfl⟩)
  have P0 := ((((Arr.new w _ 105 _ rfl _ 2 (g2_at x y)).al' (.cells #[.int .u64 0, .int .u64 0] 105)).al' (.cells #[.int .u64 0, .int .u64 0] 105)).al' (.cells #[.string a] 9)).al' (.cells #[.string s] 9)
  have Z1 := (((Arr.new (w.alloc (.cells #[.int .u64 x, .int .u64 y] 105)) _ 105 (w.heap.size + 1) (by simp) _ 2 (g2_at 0 0)).al' (.cells #[.int .u64 0, .int .u64 0] 105)).al' (.cells #[.string a] 9)).al' (.cells #[.string s] 9)
  have S2 := ((Arr.new ((w.alloc (.cells #[.int .u64 x, .int .u64 y] 105)).alloc (.cells #[.int .u64 0, .int .u64 0] 105)) _ 105 (w.heap.size + 1 + 1) (by simp) _ 2 (g2_at 0 0)).al' (.cells #[.string a] 9)).al' (.cells #[.string s] 9)
  have X3 := (Arr.new (((w.alloc (.cells #[.int .u64 x, .int .u64 y] 105)).alloc (.cells #[.int .u64 0, .int .u64 0] 105)).alloc (.cells #[.int .u64 0, .int .u64 0] 105)) #[.string a] 9 (w.heap.size + 1 + 1 + 1) (by simp) _ 1 (fun j hj => one_at _ j hj)).al' (.cells #[.string s] 9)
  have X4 := Arr.new ((((w.alloc (.cells #[.int .u64 x, .int .u64 y] 105)).alloc (.cells #[.int .u64 0, .int .u64 0] 105)).alloc (.cells #[.int .u64 0, .int .u64 0] 105)).alloc (.cells #[.string a] 9)) #[.string s] 9 (w.heap.size + 1 + 1 + 1 + 1) (by simp) _ 1 (fun j hj => one_at _ j hj)
  have hB : Below w.heap.size w (((((w.alloc (.cells #[.int .u64 x, .int .u64 y] 105)).alloc (.cells #[.int .u64 0, .int .u64 0] 105)).alloc (.cells #[.int .u64 0, .int .u64 0] 105)).alloc (.cells #[.string a] 9)).alloc (.cells #[.string s] 9)) := by go_grown
  generalize (((((w.alloc (.cells #[.int .u64 x, .int .u64 y] 105)).alloc (.cells #[.int .u64 0, .int .u64 0] 105)).alloc (.cells #[.int .u64 0, .int .u64 0] 105)).alloc (.cells #[.string a] 9)).alloc (.cells #[.string s] 9)) = w4 at P0 Z1 S2 X3 X4 hB ⊢
  have sz : w.heap.size ≤ w4.heap.size := hB.size
  have z0 : g2 (hi (hF h [])) (lo (hF h [])) = g2 0 0 := by
    have e : hF h [] = 0 := rfl
    rw [e]
    simp [hi, lo]
  refine wpIn_rangeFunc_made rfl (by omega) (gf := 115) (lb := #[.pointer (some ⟨w.heap.size + 1 + 1 + 1, 0, none⟩), .pointer (some ⟨w.heap.size + 1 + 1 + 1 + 1, 0, none⟩)]) rfl trivial (enters_of Tryz.func115 (by kernel_rfl) rfl)
    (gblocks_seq a s ha hs _ (w.heap.size + 1 + 1) (w.heap.size + 1 + 1 + 1) (w.heap.size + 1 + 1 + 1 + 1) (by omega) w4 (by omega) (by omega) X3 X4) KC.t (fun W l o o' _ h1 h2 => KC.b W l o o' h1 h2) KC.g (Below.refl _ _) (fun _ => rfl)
    (fun k e => by cases e) (Lt_own _) (Tr_own _)
    (IHx w w.heap.size (w.heap.size + 1) (w.heap.size + 1 + 1) h) INo (IHx_own w _ _ _ h _ sz) (INo_own _) (fun s A B h hg => IH.own h hg (fun r e => by cases e)) (fun _ _ _ => trivial)
    ⟨hB, by rw [HX.out.1, HX.out.2]; exact P0, Z1, by rw [z0]; exact S2⟩ ?round ?done ?stop
  case round =>
    clear P0 Z1 S2 X3 X4 hB z0
    rintro l pre t W hI ht
    unfold gB gk
    gi_wp2
    refine ⟨World.grownBy_alloc W _ none, ?_⟩
    intro W2 hU hI2 _
    have K1 := Arr.new W _ 105 _ rfl _ 2 (g2_at (hi t) (lo t))
    have JK := hU.arr K1
    have t1 : w.heap.size + 1 + 1 < W.heap.size := hI.s.lt
    clear hU K1 hI
    generalize W.heap.size = p at *
    unfold IHx at hI2
    have HO : Hid (hF h (pre ++ [t]) = tB (hF h pre ^^^ t) h) := hF_app h pre t
    have cl := hF_lt hh pre
    generalize hF h pre = c at *
    have C35 := fun A => gplus_any cl ht A
    have C21 := fun A => btimes_any (x128 cl ht) hh A
    unfold gB gk at C35 C21
    rw [HX.out.1, HX.out.2] at C21 hI2
    generalize c ^^^ t = d at *
    generalize tB d h = o at *
    obtain ⟨jB, JP, JZ, JS⟩ := hI2
    have hd : 1 ≤ 8 - 1 - 1 := by omega
    have r0 := fun ds os => cell_regrown JS.h ds os
    have r1 := fun ds os => cell_regrown JS.l ds os
    have r2 := fun ds os => cell_regrown JK.h ds os
    have r3 := fun ds os => cell_regrown JK.l ds os
    have r4 := fun ds os => cell_regrown JP.h ds os
    have r5 := fun ds os => cell_regrown JP.l ds os
    gi_wp2
    refine wpIn_region_below_tail 5 (by kernel_rfl) (by kernel_rfl) ?_
    simp only [List.take_succ_cons, List.take_zero, List.drop_succ_cons, List.drop_zero]
    repeat (go_big_quiet_step (first | (go_at_call 79; exact Calls.regrown_of (C35 _)) | (go_at_call 102; exact Calls.regrown_of (C21 _))))
    refine wpQuiet_nil ?_
    intro w1 hw'
    obtain ⟨⟨dq, osq⟩, hw''⟩ := hw'
    have hb := below_of hw''
    clear hw'' r0 r1 r2 r3 r4 r5 C35 C21
    have LS := JS.to' hb
    have LZ := JZ.to' hb
    have LP := JP.to' hb
    have lB := Bel.call jB hb
    have c0 := LS.c 0 (by omega)
    have c1 := LS.c 1 (by omega)
    have z0 := LS.z 0 (by omega)
    have z1 := LS.z 1 (by omega)
    clear JS JZ JP jB
    gi_wp2
    refine ⟨(ko_below hb).trans (ko_st2 _ _ (hi o) (lo o)), KC.t (KC.g _ _ (gby hb)) (KC.st2 _ (hi o) (lo o)), ?_⟩
    show IH w w.heap.size (w.heap.size + 1) (w.heap.size + 1 + 1) (hi h) (lo h) (hi (hF h (pre ++ [t]))) (lo (hF h (pre ++ [t]))) _
    rw [HO.out, HX.out.1, HX.out.2]
    exact ⟨Bel.st2 lB (by omega) (hi o) (lo o), LP.st2o (by omega) (hi o) (lo o), LZ.st2o (by omega) (hi o) (lo o), LS.st2 (hi o) (lo o)⟩
  case done =>
    clear P0 Z1 S2 X3 X4 hB z0
    rintro De ys W hD hS hI _ hK
    rw [show ys = hBl a s from hS] at hI
    unfold IHx at hI
    obtain ⟨o, ho⟩ : ∃ o, hF h (hBl a s) = o := ⟨_, rfl⟩
    rw [ho] at hI
    have HG : Hid (hF h (hBl a s) = o) := ho
    clear ho
    obtain ⟨jB, JP, JZ, JS⟩ := hI
    have cs := JS.h
    have cl := JS.l
    have c0 := JZ.c 0 (by omega)
    have c1 := JZ.c 1 (by omega)
    have z0 := JZ.z 0 (by omega)
    have z1 := JZ.z 1 (by omega)
    gi_wp2
    have hK' := (ko_st2 W (w.heap.size + 1) (hi o) (lo o)).same De _ hK rfl
    have H6 := arr_kept (JZ.st2 (hi o) (lo o)) (grownBy_putObj' _ De (.deferred none)) (fun r e => by cases e; exact ⟨_, hK', rfl⟩)
    refine ⟨by simp, .inl ⟨_, _, rfl, run_takeDeferred hK', ?_⟩⟩
    have e0 := H6.h
    have e1 := H6.l
    simp only [st2] at e0 e1
    refine ⟨gB o, by simp [gB, gk, results, Tryz.results78, go_sem, e0, e1], by rw [HG.out]; rfl, ?_⟩
    exact bel_of (gb_new (gby (Bel.st2 jB (b := w.heap.size + 1) (by omega) (hi o) (lo o))) (Nat.le_trans sz hD) (grownBy_putObj' _ De _))
  case stop =>
    rintro D pre W _ _ h
    exact h.elim
end Go.Proofs.YtjaljnfijhfkcaaGreatDoor
