/- Blocks turned by a key: the program's. -/
import Derived.Test.YtjaljnfijhfkcaaGreatDoorJ21
set_option linter.all false
set_option maxRecDepth 100000
namespace Go.Proofs.YtjaljnfijhfkcaaGreatDoor
open Go.RowKit Go.Shelf Go.Sort
attribute [local go_sem] Oper.semAt_some
/-- A round, ahead of its key. -/
def rdE (key : ByteArray) (i : Nat) (f : Nat → By) : Nat → By := if i = 0 then f else if i = nkO key + 6 then tnF (beF sb f) else mxF 2 3 1 1 (tnF (beF sb f))
/-- What i round keys make of a block. -/
def eS (key : ByteArray) (f : Nat → By) : Nat → Nat → By
  | 0 => f
  | i + 1 => plF (rdE key i (eS key f i)) (rk key i)
def encF (key : ByteArray) (f : Nat → By) : Nat → By := eS key f (nkO key + 7)
theorem gb_new {w W W' : World} {r : Option Nat} {q : Nat} (h : w.grownBy W r) (hq : w.heap.size ≤ q) (k : W.grownBy W' (some q)) : w.grownBy W' r :=
  ⟨k.os.trans h.os, k.tape.trans h.tape, k.output.trans h.output, Nat.le_trans h.size k.size, fun i hi hr => (k.block i (Nat.lt_of_lt_of_le hi h.size) (by intro e; cases e; omega)).trans (h.block i hi hr)⟩
theorem gb_st4 (W : World) (q : Nat) (g : Nat → Int) : W.grownBy (st4 W q g) (some q) := gb_trans (gb_trans (gb_trans (gb_set _ _ _ _) (gb_set _ _ _ _)) (gb_set _ _ _ _)) (gb_set _ _ _ _)
theorem KM.st4 {b bx q : Nat} (h1 : q ≠ b) (h2 : q ≠ bx) (W : World) (g : Nat → Int) : KM b bx W (st4 W q g) := ⟨fun f h => h.st4o h1 g, fun f h => h.st4o h2 g⟩
theorem Made.kept {W W' : World} {b : Nat} {key : ByteArray} {row : Option Nat} (h : Made W b key) (hg : W.grownBy W' row) (hr : ∀ r, row = some r → ∃ o : Obj, W.heap[r]? = some o ∧ o.isCells = false) : Made W' b key := arr_kept h hg hr
/-- What the rounds keep. -/
structure IE (w : World) (b q0 q1 q2 : Nat) (y : Nat → Int) (W : World) : Prop where
  g : w.grownBy W (some b)
  p : Arr W q0 1 (fun _ => .pointer (some ⟨b, 0, none⟩))
  s : Arr W q1 4 (fun j => .int .u32 (y j))
  z : Arr W q2 4 (fun _ => .int .u32 0)
def IEx (w : World) (b q0 q1 q2 : Nat) (Y : Nat → Nat → Int) (pre : List Nat) (W : World) : Prop := IE w b q0 q1 q2 (Y pre.length) W
def INo (pre : List Nat) (W : World) : Prop := False
theorem IE.own {w A A' : World} {b q0 q1 q2 : Nat} {y : Nat → Int} {row : Option Nat} (h : IE w b q0 q1 q2 y A) (hg : A.grownBy A' row) (hr : ∀ r, row = some r → w.heap.size ≤ r ∧ ∃ o : Obj, A.heap[r]? = some o ∧ o.isCells = false) : IE w b q0 q1 q2 y A' := by
  obtain ⟨h1, h2, h3, h4⟩ := h
  have hr' : ∀ r, row = some r → ∃ o : Obj, A.heap[r]? = some o ∧ o.isCells = false := fun r e => (hr r e).2
  refine ⟨?_, arr_kept h2 hg hr', arr_kept h3 hg hr', arr_kept h4 hg hr'⟩
  cases row with
  | none => exact ⟨hg.os.trans h1.os, hg.tape.trans h1.tape, hg.output.trans h1.output, Nat.le_trans h1.size hg.size, fun i hi hr => (hg.block i (Nat.lt_of_lt_of_le hi h1.size) (by intro e; cases e)).trans (h1.block i hi hr)⟩
  | some r => exact gb_new h1 (hr r rfl).1 hg
theorem IEx_own (w : World) (b q0 q1 q2 : Nat) (Y : Nat → Nat → Int) (B : Nat) (hB : w.heap.size ≤ B) : OwnFrom B (IEx w b q0 q1 q2 Y) :=
  fun s A A' row h hg hr => IE.own h hg (fun r e => ⟨Nat.le_trans hB (hr r e).1, (hr r e).2⟩)
theorem INo_own (B : Nat) : OwnFrom B INo := fun s A A' row h _ _ => h
theorem IEx_gb (w : World) (b q0 q1 q2 : Nat) (h0 : q0 ≠ b) (h1 : q1 ≠ b) (h2 : q2 ≠ b) (Y : Nat → Nat → Int) (s : List Nat) (A B : World) (h : IEx w b q0 q1 q2 Y s A) (hg : A.grownBy B (some b)) : IEx w b q0 q1 q2 Y s B :=
  ⟨gb_trans h.g hg, gb_arr hg h0 h.p, gb_arr hg h1 h.s, gb_arr hg h2 h.z⟩
theorem MkF_own (key : ByteArray) (b B : Nat) : OwnFrom B (fun (s : List Nat × Nat) W => MkF key b s.1 s.2 W) := fun s A A' row h hg hr => ⟨h.1.kept hg (fun r e => (hr r e).2), h.2⟩
theorem MkB_own (key : ByteArray) (b B : Nat) : OwnFrom B (fun (s : List Nat × Nat) W => MkB key b s.1 s.2 W) := fun s A A' row h hg hr => ⟨h.1.kept hg (fun r e => (hr r e).2), h.2⟩
theorem Made_own (key : ByteArray) (b B : Nat) : OwnFrom B (fun (_ : Unit) W => Made W b key) := fun s A A' row h hg hr => h.kept hg (fun r e => (hr r e).2)
theorem one_at (v : Value) (j : Nat) (hj : j < 1) : (#[v] : Array Value)[j]? = some v := by
  obtain rfl : j = 0 := by omega
  rfl
set_option maxHeartbeats 8000000 in
theorem encrypted_core (key : ByteArray) (hk : Key key) (b : Nat) (Y R : Nat → Nat → Int) (w : World) (hE : Either w b key)
    (C46 : ∀ i, i < nkO key + 7 → ∀ W, Calls Tryz.prog 111 #[bv (R i), bv (col (rk key i))] W fun e w' => e = .returned (bv (Y (i + 1))) ∧ Below W.heap.size W w')
    (h0 : R 0 = Y 0) (V1 V2 V3 : Nat → Nat → Int)
    (C43 : ∀ i W, TabAt W b 4 sb → Calls Tryz.prog 108 #[bv (Y i), .pointer (some ⟨b, 4, none⟩)] W fun e w' => e = .returned (bv (V1 i)) ∧ Below W.heap.size W w')
    (C44 : ∀ i W, Calls Tryz.prog 109 #[bv (V1 i)] W fun e w' => e = .returned (bv (V2 i)) ∧ Below W.heap.size W w')
    (C45 : ∀ i W, Calls Tryz.prog 110 #[bv (V2 i)] W fun e w' => e = .returned (bv (V3 i)) ∧ Below W.heap.size W w')
    (hL : R (nkO key + 6) = V2 (nkO key + 6)) (hM : ∀ i, i ≠ 0 → i ≠ nkO key + 6 → R i = V3 i) :
    Calls Tryz.prog 96 #[.pointer (some ⟨b, 0, none⟩), bv (Y 0)] w fun e w' => e = .returned (bv (Y (nkO key + 7))) ∧ w.grownBy w' (some b) ∧ Made w' b key := by
  refine (callsIn_wide (n := 8)).1 ?_
  refine callsIn_of_wp_marks Tryz.func96 rfl trivial ?_ rfl
  unfold bv at *
  simp only [Tryz.ntmps96, List.size_toArray, List.length_cons, List.length_nil, Nat.reduceAdd, Nat.reduceSub, Array.replicate_succ, Array.replicate_zero, List.push_toArray, List.append_toArray, List.nil_append, List.cons_append]
  gi_wp2_with (refine ⟨trivial, ?_⟩; gi_at_call 107; refine (callsIn_wide.2 (forward_any _ _)).mono ?_; rintro e w3 ⟨rfl, rfl⟩)
  have P0 : Arr ((((w.alloc (.cells #[.pointer (some ⟨b, 0, none⟩)] 179)).alloc (.cells #[.int .u32 (Y 0 0), .int .u32 (Y 0 1), .int .u32 (Y 0 2), .int .u32 (Y 0 3)] 168)).alloc (.cells #[.int .u32 0, .int .u32 0, .int .u32 0, .int .u32 0] 168)).alloc (.cells #[.pointer (some ⟨b, 0, none⟩)] 179)) w.heap.size 1 (fun _ => .pointer (some ⟨b, 0, none⟩)) := (((Arr.new w _ 179 _ rfl _ 1 (fun j hj => one_at _ j hj)).al' _).al' _).al' _
  have S1 : Arr ((((w.alloc (.cells #[.pointer (some ⟨b, 0, none⟩)] 179)).alloc (.cells #[.int .u32 (Y 0 0), .int .u32 (Y 0 1), .int .u32 (Y 0 2), .int .u32 (Y 0 3)] 168)).alloc (.cells #[.int .u32 0, .int .u32 0, .int .u32 0, .int .u32 0] 168)).alloc (.cells #[.pointer (some ⟨b, 0, none⟩)] 179)) (w.heap.size + 1) 4 (fun j => .int .u32 (Y 0 j)) := ((Arr.new _ _ 168 _ (by simp) _ 4 (h4_at (Y 0))).al' _).al' _
  have Z2 : Arr ((((w.alloc (.cells #[.pointer (some ⟨b, 0, none⟩)] 179)).alloc (.cells #[.int .u32 (Y 0 0), .int .u32 (Y 0 1), .int .u32 (Y 0 2), .int .u32 (Y 0 3)] 168)).alloc (.cells #[.int .u32 0, .int .u32 0, .int .u32 0, .int .u32 0] 168)).alloc (.cells #[.pointer (some ⟨b, 0, none⟩)] 179)) (w.heap.size + 1 + 1) 4 (fun _ => .int .u32 0) := (Arr.new _ _ 168 _ (by simp) _ 4 z4_at).al' _
  have X3 : Arr ((((w.alloc (.cells #[.pointer (some ⟨b, 0, none⟩)] 179)).alloc (.cells #[.int .u32 (Y 0 0), .int .u32 (Y 0 1), .int .u32 (Y 0 2), .int .u32 (Y 0 3)] 168)).alloc (.cells #[.int .u32 0, .int .u32 0, .int .u32 0, .int .u32 0] 168)).alloc (.cells #[.pointer (some ⟨b, 0, none⟩)] 179)) (w.heap.size + 1 + 1 + 1) 1 (fun _ => .pointer (some ⟨b, 0, none⟩)) := Arr.new _ _ 179 _ (by simp) _ 1 (fun j hj => one_at _ j hj)
  have hB : Below w.heap.size w ((((w.alloc (.cells #[.pointer (some ⟨b, 0, none⟩)] 179)).alloc (.cells #[.int .u32 (Y 0 0), .int .u32 (Y 0 1), .int .u32 (Y 0 2), .int .u32 (Y 0 3)] 168)).alloc (.cells #[.int .u32 0, .int .u32 0, .int .u32 0, .int .u32 0] 168)).alloc (.cells #[.pointer (some ⟨b, 0, none⟩)] 179)) := by go_grown
  generalize ((((w.alloc (.cells #[.pointer (some ⟨b, 0, none⟩)] 179)).alloc (.cells #[.int .u32 (Y 0 0), .int .u32 (Y 0 1), .int .u32 (Y 0 2), .int .u32 (Y 0 3)] 168)).alloc (.cells #[.int .u32 0, .int .u32 0, .int .u32 0, .int .u32 0] 168)).alloc (.cells #[.pointer (some ⟨b, 0, none⟩)] 179)) = w4 at P0 S1 Z2 X3 hB ⊢
  have bl := hE.lt
  have hE4 := hE.to hB
  obtain ⟨q1, e1⟩ : ∃ q, w.heap.size + 1 = q := ⟨_, rfl⟩
  rw [e1] at S1 Z2 X3 ⊢
  obtain ⟨q2, e2⟩ : ∃ q, q1 + 1 = q := ⟨_, rfl⟩
  rw [e2] at Z2 X3 ⊢
  obtain ⟨q3, e3⟩ : ∃ q, q2 + 1 = q := ⟨_, rfl⟩
  rw [e3] at X3 ⊢
  obtain ⟨q0, e0⟩ : ∃ q, w.heap.size = q := ⟨_, rfl⟩
  have HQ : Hid (q0 = w.heap.size ∧ q1 = q0 + 1 ∧ q2 = q0 + 2 ∧ q3 = q0 + 3 ∧ b < q0) := ⟨by omega, by omega, by omega, by omega, by omega⟩
  rw [e0] at P0 e1 ⊢
  clear e0 e1 e2 e3 bl hE
  have n0 : q0 ≠ b := by have := HQ.out; omega
  have n1 : q1 ≠ b := by have := HQ.out; omega
  have n2 : q2 ≠ b := by have := HQ.out; omega
  have n3 : q3 ≠ b := by have := HQ.out; omega
  have n13 : q1 ≠ q3 := by have := HQ.out; omega
  have sz : w.heap.size ≤ w4.heap.size := hB.size
  refine wpIn_rangeFunc_made rfl (by omega) (gf := 123) (lb := #[.pointer (some ⟨q3, 0, none⟩)]) rfl trivial (enters_of Tryz.func123 (by kernel_rfl) rfl)
    (forward_seq key hk _ b q3 (by omega) n3 w4 hE4 X3) KM.t (fun W l o o' _ h1 h2 => KM.b W l o o' h1 h2) KM.g (Below.refl _ _) (fun _ => rfl)
    (fun k e => by cases e; exact hE4.lt) (MkF_own key b _) (Made_own key b _)
    (IEx w b q0 q1 q2 Y) INo (IEx_own w b q0 q1 q2 Y _ sz) (INo_own _) (IEx_gb w b q0 q1 q2 n0 n1 n2 Y) (fun _ _ _ => trivial)
    ⟨gb_of hB, P0, S1, Z2⟩ ?round ?done ?stop
  case round =>
    clear P0 S1 Z2 X3 hB hE4
    rintro l pre x W hI hMk
    obtain ⟨hM, hx, hx7, hpre⟩ := hMk
    have HX : Hid (x = pre.length) := hx
    clear hx hpre
    unfold encK bv
    gi_wp2
    refine ⟨World.grownBy_alloc W _ none, ?_⟩
    intro W2 hU hI2 hM2
    have K1 : Arr (W.alloc (.cells #[.int .u32 (col (rk key x) 0), .int .u32 (col (rk key x) 1), .int .u32 (col (rk key x) 2), .int .u32 (col (rk key x) 3)] 168)) W.heap.size 4 (fun j => .int .u32 (col (rk key x) j)) := Arr.new _ _ 168 _ rfl _ 4 (h4_at _)
    have IK := hU.arr K1
    have t1 : q1 < W.heap.size := hI.s.lt
    have MM := hM2.1
    clear hU K1 hM2 hM
    generalize W.heap.size = t at *
    have nt : q1 ≠ t := by omega
    unfold IEx at hI2
    rw [← HX.out] at hI2
    obtain ⟨jG, JP, JS, JZ⟩ := hI2
    have n10 : q1 ≠ q0 := by have := HQ.out; omega
    have n12 : q1 ≠ q2 := by have := HQ.out; omega
    have hd : 1 ≤ 8 - 1 - 1 := by omega
    have c46 := C46 x hx7
    have x0 : (0 : Int) ≤ (x : Int) := by omega
    have JK := IK
    have KO : KeepsOthers W2 W2 := KeepsOthers.refl _
    have KK : KM b q3 W2 W2 := ⟨fun f h => h, fun f h => h⟩
    clear IK hI C46
    by_cases hx0 : x = 0
    · have hxi : (x : Int) = 0 := by omega
      have eR : R x = Y x := by rw [hx0]; exact h0
      rw [eR] at c46
      clear h0 hL hM C43 C44 C45 MM eR hx0
      generalize col (rk key x) = kx at *
      have d0 := JS.c
      have dk := JK.c
      have zs := JS.z
      gi_wp2_with (refine ⟨trivial, ?_⟩; gi_at_call 111; refine (CallsIn.inRound l (callsIn_wide.2 (c46 _))).mono ?_; rintro e w9 ⟨rfl, hb9⟩; have JS9 := JS.to' hb9; have d9 := JS9.c; have z9 := JS9.z)
      have JP9 := JP.to' hb9
      have JZ9 := JZ.to' hb9
      have jG9 := gb_trans jG (gb_of hb9)
      refine ⟨KO.trans ((ko_below hb9).trans (ko_st4 _ _ _)), KK.t ((KM.below hb9).t (KM.st4 n1 n13 _ _)), ?_⟩
      show IE w b q0 q1 q2 (Y (pre ++ [x]).length) _
      rw [List.length_append, List.length_singleton, ← HX.out]
      exact ⟨gb_new jG9 (by have := HQ.out; omega) (gb_st4 _ _ _), JP9.st4o n10 _, JS9.st4 _, JZ9.st4o n12 _⟩
    · have hxi : ¬ (x : Int) = 0 := by omega
      have cl := Arr.c MM 320 (by omega)
      rw [cph_l] at cl
      have c00 := Arr.c MM 0 (by omega)
      have cp := JP.c 0 (by omega)
      have tR := fun ds os => (Cph.tab MM).to (below_regrown W2 ds os)
      have r0 := fun ds os => cell_regrown (JS.c 0 (by omega)) ds os
      have r1 := fun ds os => cell_regrown (JS.c 1 (by omega)) ds os
      have r2 := fun ds os => cell_regrown (JS.c 2 (by omega)) ds os
      have r3 := fun ds os => cell_regrown (JS.c 3 (by omega)) ds os
      have rp := fun ds os => cell_regrown cp ds os
      have rq := fun ds os => cell_regrown c00 ds os
      have c43 := C43 x
      have c44 := C44 x
      have c45 := C45 x
      clear C43 C44 C45
      by_cases hxl : x = nkO key + 6
      · have hxj : (x : Int) = ((nkO key + 6 : Nat) : Int) := by omega
        rw [← hxj] at cl
        rw [← hxl] at hL
        rw [hL] at c46
        have HXL : Hid (x = nkO key + 6) := hxl
        clear hL hM h0 hxj hxl
        generalize col (rk key x) = kx at *
        gi_wp2
        refine wpIn_region_below_tail 6 (by kernel_rfl) (by kernel_rfl) ?_
        simp only [List.take_succ_cons, List.take_zero, List.drop_succ_cons, List.drop_zero]
        repeat (go_big_quiet_step (first | (go_at_call 108; exact Calls.regrown_of (c43 _ (tR _ _))) | (go_at_call 109; exact Calls.regrown_of (c44 _))))
        refine wpQuiet_nil ?_
        intro w5 hw'
        obtain ⟨⟨dq, osq⟩, hw''⟩ := hw'
        have hb := below_of hw''
        clear hw'' r0 r1 r2 r3 rp rq tR c43 c44 c45 cl c00 cp MM
        have KO5 := ko_below hb
        have KK5 : KM b q3 W2 w5 := KM.below hb
        have jG5 := gb_trans jG (gb_of hb)
        have JP5 := JP.to' hb
        have JS5 := JS.to' hb
        have JZ5 := JZ.to' hb
        have JK5 := JK.to' hb
        clear jG JP JS JZ JK KO KK hb
        have ds := JS5.c
        have zz := JS5.z
        have JS := JS5.st4 (V2 x)
        have KO := KO5.trans (ko_st4 w5 q1 (V2 x))
        have KK := KK5.t (KM.st4 n1 n13 w5 (V2 x))
        have jG := gb_new jG5 (by have := HQ.out; omega) (gb_st4 w5 q1 (V2 x))
        have JP := JP5.st4o n10 (V2 x)
        have JZ := JZ5.st4o n12 (V2 x)
        have JK := JK5.st4o nt (V2 x)
        have dk := JK5.c
        gi_wp2_with (refine ⟨trivial, ?_⟩; gi_at_call 111; refine (CallsIn.inRound l (callsIn_wide.2 (c46 _))).mono ?_; rintro e w9 ⟨rfl, hb9⟩; have JS9 := JS.to' hb9; have d9 := JS9.c; have z9 := JS9.z)
        have JP9 := JP.to' hb9
        have JZ9 := JZ.to' hb9
        have jG9 := gb_trans jG (gb_of hb9)
        refine ⟨KO.trans ((ko_below hb9).trans (ko_st4 _ _ _)), KK.t ((KM.below hb9).t (KM.st4 n1 n13 _ _)), ?_⟩
        show IE w b q0 q1 q2 (Y (pre ++ [x]).length) _
        rw [List.length_append, List.length_singleton, ← HX.out]
        exact ⟨gb_new jG9 (by have := HQ.out; omega) (gb_st4 _ _ _), JP9.st4o n10 _, JS9.st4 _, JZ9.st4o n12 _⟩
      · have hxj : ¬ (x : Int) = ((nkO key + 6 : Nat) : Int) := by omega
        obtain ⟨m, hm⟩ : ∃ m : Int, ((nkO key + 6 : Nat) : Int) = m := ⟨_, rfl⟩
        rw [hm] at cl hxj
        rw [hM x hx0 hxl] at c46
        clear hL hM h0 hm hxl
        generalize col (rk key x) = kx at *
        gi_wp2
        refine wpIn_region_below_tail 7 (by kernel_rfl) (by kernel_rfl) ?_
        simp only [List.take_succ_cons, List.take_zero, List.drop_succ_cons, List.drop_zero]
        repeat (go_big_quiet_step (first | (go_at_call 108; exact Calls.regrown_of (c43 _ (tR _ _))) | (go_at_call 109; exact Calls.regrown_of (c44 _)) | (go_at_call 110; exact Calls.regrown_of (c45 _))))
        refine wpQuiet_nil ?_
        intro w5 hw'
        obtain ⟨⟨dq, osq⟩, hw''⟩ := hw'
        have hb := below_of hw''
        clear hw'' r0 r1 r2 r3 rp rq tR c43 c44 c45 cl c00 cp MM
        have KO5 := ko_below hb
        have KK5 : KM b q3 W2 w5 := KM.below hb
        have jG5 := gb_trans jG (gb_of hb)
        have JP5 := JP.to' hb
        have JS5 := JS.to' hb
        have JZ5 := JZ.to' hb
        have JK5 := JK.to' hb
        clear jG JP JS JZ JK KO KK hb
        have ds := JS5.c
        have zz := JS5.z
        have JS := JS5.st4 (V3 x)
        have KO := KO5.trans (ko_st4 w5 q1 (V3 x))
        have KK := KK5.t (KM.st4 n1 n13 w5 (V3 x))
        have jG := gb_new jG5 (by have := HQ.out; omega) (gb_st4 w5 q1 (V3 x))
        have JP := JP5.st4o n10 (V3 x)
        have JZ := JZ5.st4o n12 (V3 x)
        have JK := JK5.st4o nt (V3 x)
        have dk := JK5.c
        gi_wp2_with (refine ⟨trivial, ?_⟩; gi_at_call 111; refine (CallsIn.inRound l (callsIn_wide.2 (c46 _))).mono ?_; rintro e w9 ⟨rfl, hb9⟩; have JS9 := JS.to' hb9; have d9 := JS9.c; have z9 := JS9.z)
        have JP9 := JP.to' hb9
        have JZ9 := JZ.to' hb9
        have jG9 := gb_trans jG (gb_of hb9)
        refine ⟨KO.trans ((ko_below hb9).trans (ko_st4 _ _ _)), KK.t ((KM.below hb9).t (KM.st4 n1 n13 _ _)), ?_⟩
        show IE w b q0 q1 q2 (Y (pre ++ [x]).length) _
        rw [List.length_append, List.length_singleton, ← HX.out]
        exact ⟨gb_new jG9 (by have := HQ.out; omega) (gb_st4 _ _ _), JP9.st4o n10 _, JS9.st4 _, JZ9.st4o n12 _⟩
  case done =>
    clear P0 S1 Z2 X3 hB hE4 C43 C44 C45 C46 h0 hL hM
    rintro De ys W hD hS hI hMd hK
    have hlen : ys.length = nkO key + 7 := by rw [show ys = _ from hS]; simp
    unfold IEx at hI
    rw [hlen] at hI
    clear hS hlen
    obtain ⟨jG, JP, JS, JZ⟩ := hI
    obtain ⟨g, hg⟩ : ∃ g, Y (nkO key + 7) = g := ⟨_, rfl⟩
    rw [hg] at JS
    have HG : Hid (Y (nkO key + 7) = g) := hg
    clear hg
    have cs := JS.c
    have cz := JZ.c
    have zz := JZ.z
    gi_wp2
    have hK' := (ko_st4 W q2 g).same De _ hK rfl
    have H6 := arr_kept (JZ.st4 g) (grownBy_putObj' _ De (.deferred none)) (fun r e => by cases e; exact ⟨_, hK', rfl⟩)
    have M6 := Made.kept (Arr.st4o hMd n2 g) (grownBy_putObj' (st4 W q2 g) De (.deferred none)) (fun r e => by cases e; exact ⟨_, hK', rfl⟩)
    refine ⟨by simp, .inl ⟨_, _, rfl, run_takeDeferred hK', ?_⟩⟩
    have ch := H6.c
    simp only [st4] at ch
    refine ⟨bv g, by simp [bv, results, Tryz.results96, go_sem, ch], by rw [HG.out]; rfl, ?_, M6⟩
    exact gb_new (gb_new jG (by have := HQ.out; omega) (gb_st4 W q2 g)) (Nat.le_trans sz hD) (grownBy_putObj' _ De _)
  case stop =>
    rintro D pre W _ _ h
    exact h.elim
theorem encrypted_any (key : ByteArray) (hk : Key key) (b : Nat) (f : Nat → By) (w : World) (hE : Either w b key) :
    Calls Tryz.prog 96 #[.pointer (some ⟨b, 0, none⟩), bv (col f)] w fun e w' => e = .returned (bv (col (encF key f))) ∧ w.grownBy w' (some b) ∧ Made w' b key := by
  refine encrypted_core key hk b (fun i => col (eS key f i)) (fun i => col (rdE key i (eS key f i))) w hE (fun i _ W => plus_any _ _ W) rfl (fun i => col (beF sb (eS key f i))) (fun i => col (tnF (beF sb (eS key f i)))) (fun i => col (mxF 2 3 1 1 (tnF (beF sb (eS key f i)))))
    (fun i W hW => become_any sb b 4 _ W hW) (fun i W => turned_any _ W) (fun i W => mixed_any _ W) ?_ ?_
  · show col (rdE key (nkO key + 6) _) = _
    unfold rdE
    rw [if_neg (by omega), if_pos rfl]
  · intro i h0 h1
    show col (rdE key i _) = _
    unfold rdE
    rw [if_neg h0, if_neg h1]
end Go.Proofs.YtjaljnfijhfkcaaGreatDoor
