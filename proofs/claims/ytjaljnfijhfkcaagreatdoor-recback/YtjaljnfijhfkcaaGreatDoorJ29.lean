/- Stream. -/
import Derived.Test.YtjaljnfijhfkcaaGreatDoorJ24
set_option linter.all false
set_option maxRecDepth 100000
namespace Go.Proofs.YtjaljnfijhfkcaaGreatDoor
open Go.RowKit Go.Shelf Go.Sort Go.Lib
attribute [local go_sem] Oper.semAt_some
/-- What the rounds keep: the number, the cipher, the row and its slice. -/
structure IS (w : World) (key : ByteArray) (b p5 g p10 n k : Nat) (s : ByteArray) (W : World) : Prop where
  bel : Below w.heap.size w W
  num : Arr W p5 1 (fun _ => .int .i64 (n : Int))
  cip : Either W b key
  box : Arr W p10 1 (fun _ => .slice (some ⟨g, 0, none⟩) (16 * k) (n + 16))
  row : W.ownsRow w.heap.size 5 1 (.slice (some ⟨g, 0, none⟩) (16 * k) (n + 16)) (16 * k) (strCells s)
def ISx (w : World) (key : ByteArray) (b p5 g p10 n : Nat) (T : Nat → ByteArray) (pre : List Nat) (W : World) : Prop := IS w key b p5 g p10 n pre.length (T pre.length) W ∧ 16 * pre.length < n + 16
def IXx (w : World) (key : ByteArray) (b p5 g p10 n : Nat) (T : Nat → ByteArray) (pre : List Nat) (W : World) : Prop := ∃ k, IS w key b p5 g p10 n k (T k) W ∧ k = (n + 15) / 16
theorem Either.kept {W W' : World} {b : Nat} {key : ByteArray} {row : Option Nat} (h : Either W b key) (hg : W.grownBy W' row) (hr : ∀ r, row = some r → ∃ o : Obj, W.heap[r]? = some o ∧ o.isCells = false) : Either W' b key := by
  rcases h with h | h
  · exact .inl (arr_kept h hg hr)
  · exact .inr (arr_kept h hg hr)
theorem Either.other {W W' : World} {b x : Nat} {key : ByteArray} (h : Either W b key) (hg : W.grownBy W' (some x)) (hne : b ≠ x) : Either W' b key := by
  rcases h with h | h
  · exact .inl (gb_arr hg hne h)
  · exact .inr (gb_arr hg hne h)
theorem row_kept {W W' : World} {base g n cap : Nat} {xs : List Value} {row : Option Nat} (h : W.ownsRow base 5 1 (.slice (some ⟨g, 0, none⟩) n cap) n xs) (hg : W.grownBy W' row) (hr : ∀ r, row = some r → ∃ o : Obj, W.heap[r]? = some o ∧ o.isCells = false) : W'.ownsRow base 5 1 (.slice (some ⟨g, 0, none⟩) n cap) n xs := by
  refine h.kept hg (.inr ?_)
  intro e
  obtain ⟨o, ho, hc⟩ := hr g (by rw [← e]; rfl)
  rcases h.2 with ⟨h, _⟩ | ⟨g', cap', cur, hv, _, hh, _⟩
  · cases h
  · cases hv
    rw [hh] at ho
    cases ho
    cases hc
theorem IS.own {w A A' : World} {key : ByteArray} {b p5 g p10 n k : Nat} {s : ByteArray} {row : Option Nat} (h : IS w key b p5 g p10 n k s A) (hg : A.grownBy A' row) (hr : ∀ r, row = some r → w.heap.size ≤ r ∧ ∃ o : Obj, A.heap[r]? = some o ∧ o.isCells = false) : IS w key b p5 g p10 n k s A' := by
  have hr' : ∀ r, row = some r → ∃ o : Obj, A.heap[r]? = some o ∧ o.isCells = false := fun r e => (hr r e).2
  exact ⟨h.bel.grown hg h.bel.size (fun r e => (hr r e).1), arr_kept h.num hg hr', h.cip.kept hg hr', arr_kept h.box hg hr', row_kept h.row hg hr'⟩
theorem ISx_own (w : World) (key : ByteArray) (b p5 g p10 n : Nat) (T : Nat → ByteArray) (B : Nat) (hB : w.heap.size ≤ B) : OwnFrom B (ISx w key b p5 g p10 n T) :=
  fun s A A' row h hg hr => ⟨IS.own h.1 hg (fun r e => ⟨Nat.le_trans hB (hr r e).1, (hr r e).2⟩), h.2⟩
theorem IXx_own (w : World) (key : ByteArray) (b p5 g p10 n : Nat) (T : Nat → ByteArray) (B : Nat) (hB : w.heap.size ≤ B) : OwnFrom B (IXx w key b p5 g p10 n T) := by
  rintro s A A' row ⟨k, h, hk⟩ hg hr
  exact ⟨k, IS.own h hg (fun r e => ⟨Nat.le_trans hB (hr r e).1, (hr r e).2⟩), hk⟩
theorem Either.drew {W : World} {b : Nat} {key : ByteArray} (h : Either W b key) : Either W.drew b key := h
theorem gb_undrew {W A : World} {r : Option Nat} (h : W.drew.grownBy A r) : W.grownBy A r := ⟨h.os, h.tape, h.output, h.size, h.block⟩
theorem cells_of {W : World} {b j : Nat} {v : Value} {o : Obj} (h : W.cell? ⟨b, j, none⟩ = some v) (ho : W.heap[b]? = some o) : o.isCells = true := by
  unfold World.cell? at h
  simp only [ho] at h
  cases o <;> first | rfl | simp at h
theorem ko_one {W W' : World} {b j : Nat} {v : Value} (hg : W.grownBy W' (some b)) (h : W.cell? ⟨b, j, none⟩ = some v) : KeepsOthers W W' :=
  KeepsOthers.of_grownBy hg (fun i o e ho => by cases e; exact cells_of h ho)
theorem Either.some {W : World} {b : Nat} {key : ByteArray} (h : Either W b key) : ∃ v, W.cell? ⟨b, 0, none⟩ = Option.some v := by
  rcases h with h | h
  · exact ⟨_, Arr.c h 0 (by omega)⟩
  · exact ⟨_, Arr.c h 0 (by omega)⟩
theorem ko_row {W W' : World} {base g n cap : Nat} {xs : List Value} (h : W.ownsRow base 5 1 (.slice (some ⟨g, 0, none⟩) n cap) n xs) (hg : W.grownBy W' (some g)) : KeepsOthers W W' :=
  KeepsOthers.of_grownBy hg (fun i o e ho => by
    cases e
    rcases h.2 with ⟨h, _⟩ | ⟨g', cap', cur, hv, _, hh, _⟩
    · cases h
    · cases hv
      rw [hh] at ho
      cases ho
      rfl)
theorem MkC_own (B : Nat) : OwnFrom B (fun (s : List Nat × Nat) W => MkC s.1 s.2 W) := fun s A A' row h _ _ => h
theorem True_own (B : Nat) : OwnFrom B (fun (_ : Unit) (W : World) => True) := fun _ _ _ _ _ _ _ => trivial
set_option maxHeartbeats 8000000 in
theorem stream_core (key first : ByteArray) (hk : Key key) (n : Nat) (hn : n ≤ 65536) (f : Nat → By) (L : List Value) (w : World) (HL : Hid (L = frL key))
    (C28 : ∀ W, Calls Tryz.prog 95 #[.string key, .string first] W fun e w' => e = .returned (.int .i64 0) ∧ w' = W)
    (C30 : ∀ W, Calls Tryz.prog 97 #[.string first] W fun e w' => e = .returned (bv (col f)) ∧ Below W.heap.size W w') :
    Calls Tryz.prog 77 #[.string key, .string first, .int .i64 (n : Int)] w fun e w' => e = .returned (.tuple #[.string (smS key f n), .int .i64 0]) ∧ Below w.heap.size w w' := by
  have n0 : (0 : Int) ≤ (n : Int) := by omega
  have n1 : (n : Int) ≤ 65536 := by omega
  obtain ⟨i0, hi, hz0, hz1, hz2⟩ := info_parts Tryz.info5
  refine (callsIn_wide (n := 8)).1 ?_
  refine callsIn_of_wp_marks Tryz.func77 rfl trivial ?_ rfl
  simp only [Tryz.ntmps77, List.size_toArray, List.length_cons, List.length_nil, Nat.reduceAdd, Nat.reduceSub, Array.replicate_succ, Array.replicate_zero, List.push_toArray, List.append_toArray, List.nil_append, List.cons_append]
  refine wpIn_wide.2 ?_
  go_wp2_with fail
  refine (C28 _).mono ?_
  rintro e w1 ⟨rfl, rfl⟩
  have N5 : Arr (w.alloc (.cells #[.int .i64 (n : Int)] 3)) w.heap.size 1 (fun _ => .int .i64 (n : Int)) := Arr.new _ _ 3 _ rfl _ 1 (fun j hj => one_at _ j hj)
  have B1 : Below w.heap.size w (w.alloc (.cells #[.int .i64 (n : Int)] 3)) := Bel.al (Below.refl _ w) _
  clear C28
  go_upto_region 6 with (fail)
  generalize w.alloc (.cells #[.int .i64 (n : Int)] 3) = w1 at N5 B1 ⊢
  obtain ⟨p5, e5⟩ : ∃ p, w.heap.size = p := ⟨_, rfl⟩
  rw [e5] at N5 ⊢
  have H5 : Hid (w.heap.size = p5) := e5
  clear e5
  refine wp_region_list ?_
  refine wpList_plain (by rfl) fun K1 hK1 => ?_
  have H1 : Hid _ := hK1
  clear hK1
  go_wp2_with fail
  refine H1.out _ _ ?_
  clear H1
  refine wpList_plain (by rfl) fun K1 hK1 => ?_
  have H1 : Hid _ := hK1
  clear hK1
  go_wp2_with fail
  refine H1.out _ _ ?_
  clear H1
  rw [frL_is, ← HL.out]
  have HS : L.toArray.size = 321 := by rw [HL.out, List.size_toArray, frL_len]
  refine wpList_plain (by rfl) fun K1 hK1 => ?_
  have H1 : Hid _ := hK1
  clear hK1
  go_wp2_with fail
  refine H1.out _ _ ?_
  clear H1
  refine wpList_store_mid (by rfl) 166 (.tmp 9) (.tmp 25) (by rfl) _ _ L.toArray (by rfl) (by rfl) (by rw [HS]; exact (fresh_zero _).there) (by rw [HS]; exact Tryz.info166) (by rw [HL.out]; exact all_oneCell_toArray (frL_one key)) ?_
  refine wpList_nil ?_
  have F := fresh_new w1 key
  have B := fresh_below w1 key
  have eL : L.toArray.toList = L := rfl
  rw [eL]
  rw [← HL.out] at F B
  clear eL HS
  have N6 := N5.to' B
  have B6 := Bel.call B1 B
  have bz : w1.heap.size < ((w1.alloc (.cells Tryz.zeroCells166 166)).setCells w1.heap.size 0 L).heap.size := F.lt
  have pz : p5 < w1.heap.size := N5.lt
  generalize (w1.alloc (.cells Tryz.zeroCells166 166)).setCells w1.heap.size 0 L = w3 at F B N6 B6 bz ⊢
  have B1s := B1.size
  generalize w1.heap.size = b at *
  clear N5 B1 B
  have c5 := N6.c 0 (by omega)
  obtain ⟨wm, hmk, hown, hgm⟩ := run_make_own (P := Tryz.prog) w3 w.heap.size 50 5 i0 (.int .u8 0) 1 Tryz.underlying50 hi hz0 hz1 .i64 .i64 (n + 16) (by rw [hz2]; omega) (by unfold maxLen; omega) B6.size
  have en : ((n + 16 : Nat) : Int) = (n : Int) + 16 := by omega
  rw [en] at hmk
  clear en
  have hmb : Below w3.heap.size w3 wm := ⟨hgm.os, hgm.tape, hgm.output, hgm.size, fun k hk => hgm.block k hk (by intro e; cases e)⟩
  go_upto_region 8 with (fail)
  clear hmk c5
  have N7 := (N6.to' hmb).al' (.cells #[.slice (some ⟨w3.heap.size, 0, none⟩) 0 (n + 16)] 50)
  have F7 : Fresh (wm.alloc (.cells #[.slice (some ⟨w3.heap.size, 0, none⟩) 0 (n + 16)] 50)) b key := Arr.al' (Cph.to F hmb) _
  have X7 : Arr (wm.alloc (.cells #[.slice (some ⟨w3.heap.size, 0, none⟩) 0 (n + 16)] 50)) wm.heap.size 1 (fun _ => .slice (some ⟨w3.heap.size, 0, none⟩) 0 (n + 16)) := Arr.new _ _ 50 _ rfl _ 1 (fun j hj => one_at _ j hj)
  have O7 := hown.alloc (.cells #[.slice (some ⟨w3.heap.size, 0, none⟩) 0 (n + 16)] 50)
  have B7 := Bel.al (Bel.call B6 hmb) (.cells #[.slice (some ⟨w3.heap.size, 0, none⟩) 0 (n + 16)] 50)
  have gz : w3.heap.size < wm.heap.size := (hown.lt w3.heap.size rfl).2
  have B6s := B6.size
  clear N6 F hown hgm hmb B6
  generalize wm.alloc (.cells #[.slice (some ⟨w3.heap.size, 0, none⟩) 0 (n + 16)] 50) = w7 at N7 F7 X7 O7 B7 ⊢
  generalize w3.heap.size = g at *
  generalize wm.heap.size = p10 at *
  have HO : Hid (p5 < b ∧ b < g ∧ g < p10 ∧ w.heap.size ≤ p5) := ⟨pz, bz, gz, by rw [H5.out]; omega⟩
  have HP5 : Hid (w.heap.size = p5) := H5
  clear bz gz pz B1s B6s H5
  go_wp2_with fail
  refine (C30 _).mono ?_
  rintro e w8 ⟨rfl, hb8⟩
  have N8 := N7.to' hb8
  have F8 := Cph.to F7 hb8
  have X8 := X7.to' hb8
  have O8 := O7.kept (gb_of (r := none) hb8) (.inr (by simp [Value.ownBlock]))
  have B8 := Bel.call B7 hb8
  clear N7 F7 X7 O7 B7 hb8 C30
  go_wp2_with (go_at_call 99; refine (counted_any (col f) _).mono ?_; rintro e w9 ⟨rfl, rfl⟩)
  have N9 := N8.al' (.cells #[.int .u32 (col f 0), .int .u32 (col f 1), .int .u32 (col f 2), .int .u32 (col f 3)] 168)
  have F9 : Fresh (w8.alloc (.cells #[.int .u32 (col f 0), .int .u32 (col f 1), .int .u32 (col f 2), .int .u32 (col f 3)] 168)) b key := Arr.al' F8 _
  have X9 := X8.al' (.cells #[.int .u32 (col f 0), .int .u32 (col f 1), .int .u32 (col f 2), .int .u32 (col f 3)] 168)
  have O9 := O8.alloc (.cells #[.int .u32 (col f 0), .int .u32 (col f 1), .int .u32 (col f 2), .int .u32 (col f 3)] 168)
  have B9 := Bel.al B8 (.cells #[.int .u32 (col f 0), .int .u32 (col f 1), .int .u32 (col f 2), .int .u32 (col f 3)] 168)
  have V9 : Arr (w8.alloc (.cells #[.int .u32 (col f 0), .int .u32 (col f 1), .int .u32 (col f 2), .int .u32 (col f 3)] 168)) w8.heap.size 4 (fun j => .int .u32 (col f j)) := Arr.new _ _ 168 _ rfl _ 4 (h4_at _)
  have l10 : p10 < w8.heap.size := X8.lt
  clear N8 F8 X8 O8 B8
  generalize w8.alloc (.cells #[.int .u32 (col f 0), .int .u32 (col f 1), .int .u32 (col f 2), .int .u32 (col f 3)] 168) = w9 at N9 F9 X9 O9 B9 V9 ⊢
  generalize w8.heap.size = bx at *
  have sz : w.heap.size ≤ w9.heap.size := B9.size
  have lx : p10 < w9.heap.size := X9.lt
  have lg : g < w9.heap.size := by have := HO.out; omega
  have lb : b < w9.heap.size := by have := HO.out; omega
  have nb5 : p5 ≠ b := by have := HO.out; omega
  have n5g : p5 ≠ g := by have := HO.out; omega
  have n5x : p5 ≠ p10 := by have := HO.out; omega
  have nbg : b ≠ g := by have := HO.out; omega
  have nbx : b ≠ p10 := by have := HO.out; omega
  have ngx : g ≠ p10 := by have := HO.out; omega
  refine (wpIn_wide (n := 8)).1 ?_
  refine wpIn_rangeFunc_made rfl (by omega) (gf := 113) (lb := #[.pointer (some ⟨bx, 0, none⟩)]) rfl trivial (enters_of Tryz.func113 (by kernel_rfl) rfl)
    (counted_seq f _ bx b g p10 (n / 16 + 2) (by omega) w9 lb lg lx V9) KC.t (fun W l o o' _ h1 h2 => KC.b W l o o' h1 h2) KC.g (Below.refl _ _) (fun _ => rfl)
    (fun k e => by cases e) (MkC_own _) (True_own _)
    (ISx w key b p5 g p10 n (stS key f)) (IXx w key b p5 g p10 n (stS key f)) (ISx_own w key b p5 g p10 n _ _ sz) (IXx_own w key b p5 g p10 n _ _ sz) (fun s A B h hg => ⟨IS.own h.1 hg (fun r e => by cases e), h.2⟩) (fun s A h => by have := h.2; omega)
    ⟨⟨B9, N9, .inl F9, X9, O9⟩, by simp⟩ ?round ?done ?stop
  case round =>
    clear N9 F9 X9 O9 B9 V9
    rintro l pre x W hI hMk
    obtain ⟨hx, hpre⟩ := hMk
    have HX : Hid (x = pre.length) := hx
    clear hx hpre
    unfold encC bv
    gi_wp2
    refine ⟨World.grownBy_alloc W _ none, ?_⟩
    intro W2 hU hI2 hM2
    have K1 : Arr (W.alloc (.cells #[.int .u32 (col (ctF f x) 0), .int .u32 (col (ctF f x) 1), .int .u32 (col (ctF f x) 2), .int .u32 (col (ctF f x) 3)] 168)) W.heap.size 4 (fun j => .int .u32 (col (ctF f x) j)) := Arr.new _ _ 168 _ rfl _ 4 (h4_at _)
    have JK := hU.arr K1
    have t1 : p10 < W.heap.size := hI.1.box.lt
    clear hU K1 hM2 hI
    generalize W.heap.size = t at *
    obtain ⟨hI3, hlt⟩ := hI2
    rw [← HX.out] at hI3 hlt
    obtain ⟨jB, JN, JC, JX, JR⟩ := hI3
    have c5 := JN.c 0 (by omega)
    have c10 := JX.c 0 (by omega)
    have hd : 1 ≤ 8 - 1 - 1 := by omega
    have x0 : (0 : Int) ≤ (x : Int) := by omega
    by_cases hge : n ≤ 16 * x
    · have hgi : (n : Int) ≤ 16 * (x : Int) := by omega
      have hgj : (n : Int) ≤ ((16 * x : Nat) : Int) := by omega
      gi_wp2
      exact ⟨rfl, KeepsOthers.refl _, x, ⟨jB, JN, JC, JX, JR⟩, by omega⟩
    · have hgi : ¬ (n : Int) ≤ 16 * (x : Int) := by omega
      have hgj : ¬ (n : Int) ≤ ((16 * x : Nat) : Int) := by omega
      have EN := fun A (hA : Either A b key) => encrypted_any key hk b (ctF f x) A hA
      have AP := fun A (hA : A.ownsRow w.heap.size 5 1 (.slice (some ⟨g, 0, none⟩) (16 * x) (n + 16)) (16 * x) (strCells (stS key f x))) => appended_fits (col (encF key (ctF f x))) w.heap.size (16 * x) g (n + 16) (strCells (stS key f x)) A hA (by omega)
      rw [hf_tx, ← strCells_app] at AP
      unfold bv at EN AP
      have HST : Hid (stS key f (x + 1) = stS key f x ++ tx (encF key (ctF f x))) := rfl
      have dk := JK.c
      gi_wp2
      gi_region_with (first
        | (refine ⟨trivial, ?_⟩; gi_at_call 96; refine (CallsIn.inRound l (callsIn_wide.2 (EN _ ?_))).mono ?_; (first | exact JC | exact JC.drew); rintro e w5 ⟨rfl, hG5', hM5⟩; have hG5 : W2.grownBy w5 (some b) := (by first | exact hG5' | exact gb_undrew hG5'); have X5 := gb_arr hG5 nbx.symm JX; have c10' := X5.c 0 (by omega); have O5 := JR.kept hG5 (.inr (by simp [Value.ownBlock]; omega)))
        | (refine ⟨trivial, ?_⟩; gi_at_call 100; refine (CallsIn.inRound l (callsIn_wide.2 (AP _ O5))).mono ?_; rintro e w6 ⟨rfl, O6, hG6⟩; have X6 := gb_arr hG6 ngx.symm X5; have c106 := X6.c 0 (by omega); have z106 := X6.z 0 (by omega)))
      all_goals
        obtain ⟨v0, hv0⟩ := JC.some
        refine ⟨((ko_one hG5 hv0).trans (ko_row O5 hG6)).trans (KeepsOthers.setCell _ _ _), (KC.one hG5 (.inl rfl)).t ((KC.one hG6 (.inr (.inl rfl))).t (KC.one (gb_set w6 p10 0 _) (.inr (.inr rfl)))), ?_⟩
        show IS w key b p5 g p10 n (pre ++ [x]).length (stS key f (pre ++ [x]).length) _ ∧ 16 * (pre ++ [x]).length < n + 16
        rw [List.length_append, List.length_singleton, ← HX.out, HST.out, show 16 * (x + 1) = 16 * x + 16 by omega]
        refine ⟨⟨?_, ?_, ?_, ?_, ?_⟩, by omega⟩
        · exact ((jB.grown hG5 jB.size (fun r e => by cases e; have := HO.out; omega)).grown hG6 (Nat.le_trans jB.size hG5.size) (fun r e => by cases e; have := HO.out; omega)).setCell (p := ⟨p10, 0, none⟩) (by have := HO.out; show w.heap.size ≤ p10; omega) _
        · exact (gb_arr hG6 n5g (gb_arr hG5 nb5 JN)).other n5x.symm _
        · exact Either.other (Either.other (.inr hM5) hG6 nbg) (gb_set _ _ _ _) nbx
        · rw [show 16 * (x + 1) = 16 * x + 16 by omega]
          exact (X6.set 0 (by omega) _).congr (fun j hj => by rw [if_pos (by omega)])
        · rw [show 16 * (x + 1) = 16 * x + 16 by omega]
          exact O6.kept (gb_set w6 p10 0 _) (.inr (by simp [Value.ownBlock]; omega))
  case done =>
    rintro D xs W _ h
    exact h.elim
  case stop =>
    clear N9 F9 X9 O9 B9 V9
    rintro De pre W hD _ ⟨k, ⟨jB, JN, JC, JX, JR⟩, hkk⟩ hK
    have hnk : n ≤ 16 * k := by omega
    have cv := convR W _ n _ (smS key f n) (by
      have h := ownsRow_take JR hnk
      rw [strCells_take] at h
      unfold smS
      rw [← hkk]
      exact h) (smS_size key f n)
    have c5 := JN.c 0 (by omega)
    have c10 := JX.c 0 (by omega)
    obtain ⟨T, hT⟩ : ∃ T, smS key f n = T := ⟨_, rfl⟩
    rw [hT] at cv
    have HT : Hid (smS key f n = T) := hT
    clear hT
    clear JR JX JC JN hkk hnk
    gi_wp2
    go_wp2_with fail
    try rw [Exit.noGoto_ret]
    refine ⟨by simp, .inl ⟨_, _, rfl, run_takeDeferred hK, ?_⟩⟩
    refine ⟨.tuple #[.string T, .int .i64 0], by simp [results, Tryz.results77, go_sem], ?_, ?_⟩
    · rw [HT.out]
    · exact jB.trans (belowK_b (w := w) (Nat.le_refl _) W De _ _ (Nat.le_trans sz hD) hK rfl rfl)
theorem stream_any (key first : ByteArray) (n : Int) (w : World) :
    Calls Tryz.prog 77 #[.string key, .string first, .int .i64 n] w fun e w' => e = .returned (.tuple #[.string (if rfn key first n = 0 then smS key (bF first) n.toNat else ⟨#[]⟩), .int .i64 (rfn key first n)]) ∧ Below w.heap.size w w' := by
  by_cases h : rfn key first n = 0
  · have hn : 0 ≤ n ∧ n ≤ 65536 := by
      unfold rfn at h
      by_cases c : n < 0 ∨ 65536 < n
      · rw [if_pos c] at h; omega
      · omega
    have h2 : rfs key first = 0 := by
      unfold rfn at h
      rw [if_neg (by omega)] at h
      exact h
    obtain ⟨hk, hs⟩ := rfs_0 h2
    have C28 := fun W => refused_any key first W
    rw [h2] at C28
    rw [if_pos h, h]
    obtain ⟨m, rfl⟩ := Int.eq_ofNat_of_zero_le hn.1
    exact stream_core key first hk m (by omega) (bF first) (frL key) w rfl C28 (fun W => blockOf_any first hs W)
  · rw [if_neg h]
    exact stream_no key first n h w
end Go.Proofs.YtjaljnfijhfkcaaGreatDoor
