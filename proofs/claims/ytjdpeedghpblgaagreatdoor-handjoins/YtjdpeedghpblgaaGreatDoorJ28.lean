/- Texts joined: HM, HN, HZ, IA, HS. -/
import Derived.Laws.IdiomMaps
import Derived.Recover
import Derived.Test.YtjdpeedghpblgaaGreatDoorJ27
import Derived.Test.YtjdpeedghpblgaaGreatDoorJ1
import Derived.Test.YtjdpeedghpblgaaGreatDoorJ20
import Derived.Test.YtjdpeedghpblgaaGreatDoorJ22
import Derived.Test.YtjdpeedghpblgaaGreatDoorJ13
/- Package hand: the table of kinds. -/
set_option linter.all false
set_option maxRecDepth 100000
namespace Go.Proofs.YtjdpeedghpblgaaGreatDoor
open Go.RowKit Go.Sort Go.Shelf Go.MapKept
/-- What the table has of a kind. -/
def shV (k : Int) : Value := if k = 1 then .agg #[.func (.func 34) #[] #[], .func (.func 35) #[] #[], .func (.func 36) #[] #[]] else if k = 2 then .agg #[.func (.func 37) #[] #[], .func (.func 38) #[] #[], .func (.func 39) #[] #[]] else if k = 8 then .agg #[.func (.func 40) #[] #[], .func (.func 41) #[] #[], .func (.func 42) #[] #[]] else if k = 11 then .agg #[.func (.func 43) #[] #[], .func (.func 44) #[] #[], .func (.func 45) #[] #[]] else if k = 15 then .agg #[.func (.func 46) #[] #[], .func (.func 47) #[] #[], .func (.func 48) #[] #[]] else if k = 20 then .agg #[.func (.func 49) #[] #[], .func (.func 50) #[] #[], .func (.func 51) #[] #[]] else .agg #[.nilFunc, .nilFunc, .nilFunc]
def shE : Array MapEntry := #[⟨.int .i64 1, .agg #[.func (.func 34) #[] #[], .func (.func 35) #[] #[], .func (.func 36) #[] #[]], 0⟩, ⟨.int .i64 2, .agg #[.func (.func 37) #[] #[], .func (.func 38) #[] #[], .func (.func 39) #[] #[]], 1⟩, ⟨.int .i64 8, .agg #[.func (.func 40) #[] #[], .func (.func 41) #[] #[], .func (.func 42) #[] #[]], 2⟩, ⟨.int .i64 11, .agg #[.func (.func 43) #[] #[], .func (.func 44) #[] #[], .func (.func 45) #[] #[]], 3⟩, ⟨.int .i64 15, .agg #[.func (.func 46) #[] #[], .func (.func 47) #[] #[], .func (.func 48) #[] #[]], 4⟩, ⟨.int .i64 20, .agg #[.func (.func 49) #[] #[], .func (.func 50) #[] #[], .func (.func 51) #[] #[]], 5⟩]
/-- The table lies there. -/
def Shp (w : World) (b : Nat) : Prop := w.heap[b]? = some (.map shE 6)
theorem Shp.to {w w' : World} {b : Nat} (h : Shp w b) (hb : Below w.heap.size w w') : Shp w' b := (hb.block b (Array.getElem?_eq_some_iff.1 h).1).trans h
theorem Shp.up {w w' : World} {b p : Nat} (h : Shp w b) (hb : Upto p w w') (hp : b ≠ p) : Shp w' b := (hb.block b (Array.getElem?_eq_some_iff.1 h).1 hp).trans h
theorem upd_new (w : World) (b : Nat) (es : Array MapEntry) (c : Nat) (k : Int) (v : Value) (hb : w.heap[b]? = some (.map es c)) (hn : Instr.findNow (.int .i64) (.int .i64 k) es.toList 0 = some none) (B : Nat) (hB : B ≤ b) :
    ∃ W, (Instr.mapUpdate 57 (.map (some b)) (.int .i64 k) v).run Tryz.prog w = .ok () W ∧ W.heap[b]? = some (.map (es.push ⟨.int .i64 k, v, c⟩) (c + 1)) ∧ Below B w W := by
  refine ⟨{ w with heap := w.heap.setIfInBounds b (.map (es.push ⟨.int .i64 k, v, c⟩) (c + 1)) }, ?_, (heap_set hb).1, ⟨rfl, rfl, rfl, by simp, fun q hq => (heap_set hb).2 q (by omega)⟩⟩
  unfold Instr.mapUpdate
  simp only [Sem.run_bind, run_underlying Tryz.underlying57, Result.andThen, Go.MapKept.run_getObj_map hb, run_checkKey Tryz.underlying3 (show IsKey _ (.int .i64 k) from rfl), run_findKey Tryz.underlying3 hn, run_setObj_map _ hb]
set_option maxHeartbeats 1000000 in
theorem shapes_any (w : World) : Calls Tryz.prog 21 #[] w fun e w' => e = .returned (.map (some w.heap.size)) ∧ Shp w' w.heap.size ∧ Below w.heap.size w w' := by
  have hmm := @run_makeMap Tryz.prog
  have e0 : (w.alloc (.map #[] 0)).heap[w.heap.size]? = some (.map #[] 0) := (heap_alloc w _).1
  have b0 : Below w.heap.size w (w.alloc (.map #[] 0)) := Below.alloc (Below.refl _ _) (Nat.le_refl _) _
  obtain ⟨W1, u1, e1, c1⟩ := upd_new (w.alloc (.map #[] 0)) w.heap.size _ 0 1 (.agg #[.func (.func 34) #[] #[], .func (.func 35) #[] #[], .func (.func 36) #[] #[]]) e0 (by rfl) w.heap.size (Nat.le_refl _)
  obtain ⟨W2, u2, e2, c2⟩ := upd_new W1 w.heap.size _ 1 2 (.agg #[.func (.func 37) #[] #[], .func (.func 38) #[] #[], .func (.func 39) #[] #[]]) e1 (by rfl) w.heap.size (Nat.le_refl _)
  obtain ⟨W3, u3, e3, c3⟩ := upd_new W2 w.heap.size _ 2 8 (.agg #[.func (.func 40) #[] #[], .func (.func 41) #[] #[], .func (.func 42) #[] #[]]) e2 (by rfl) w.heap.size (Nat.le_refl _)
  obtain ⟨W4, u4, e4, c4⟩ := upd_new W3 w.heap.size _ 3 11 (.agg #[.func (.func 43) #[] #[], .func (.func 44) #[] #[], .func (.func 45) #[] #[]]) e3 (by rfl) w.heap.size (Nat.le_refl _)
  obtain ⟨W5, u5, e5, c5⟩ := upd_new W4 w.heap.size _ 4 15 (.agg #[.func (.func 46) #[] #[], .func (.func 47) #[] #[], .func (.func 48) #[] #[]]) e4 (by rfl) w.heap.size (Nat.le_refl _)
  obtain ⟨W6, u6, e6, c6⟩ := upd_new W5 w.heap.size _ 5 20 (.agg #[.func (.func 49) #[] #[], .func (.func 50) #[] #[], .func (.func 51) #[] #[]]) e5 (by rfl) w.heap.size (Nat.le_refl _)
  have hE : Hid (Shp W6 w.heap.size) := e6
  have hB : Hid (Below w.heap.size w W6) := ((((((b0.trans c1).trans c2).trans c3).trans c4).trans c5).trans c6)
  clear e0 e1 e2 e3 e4 e5 e6 c1 c2 c3 c4 c5 c6 b0
  go_enter Tryz.func21, Tryz.ntmps21
  go_wp2
  go_ret
  exact ⟨rfl, hE.out, hB.out⟩
theorem sh_find (k : Int) : Instr.findNow (.int .i64) (.int .i64 k) shE.toList 0 = some (if kdB k = true then some ((if k = 1 then 0 else if k = 2 then 1 else if k = 8 then 2 else if k = 11 then 3 else if k = 15 then 4 else 5), shV k) else none) := by
  by_cases h1 : k = 1
  · subst h1; rfl
  by_cases h2 : k = 2
  · subst h2; rfl
  by_cases h8 : k = 8
  · subst h8; rfl
  by_cases h11 : k = 11
  · subst h11; rfl
  by_cases h15 : k = 15
  · subst h15; rfl
  by_cases h20 : k = 20
  · subst h20; rfl
  have hk : kdB k = false := by unfold kdB; simp [h1, h2, h8, h11, h15, h20]
  rw [hk]
  have f : ∀ n : Int, ¬ k = n → (k == n) = false := fun n h => by simpa using h
  simp [shE, Instr.findNow, Instr.sameNow, f 1 h1, f 2 h2, f 8 h8, f 11 h11, f 15 h15, f 20 h20]
theorem sh_zero : (zeroValue 56).run Tryz.prog = fun w => .ok (.agg #[.nilFunc, .nilFunc, .nilFunc]) w := by
  funext w; kernel_rfl
theorem shV_no (k : Int) (h : kdB k = false) : shV k = .agg #[.nilFunc, .nilFunc, .nilFunc] := by
  unfold kdB at h
  simp at h
  unfold shV
  simp [h]
theorem Shp.look {w : World} {b : Nat} (h : Shp w b) (k : Int) (ok : Bool) : (Instr.lookup 57 (.map (some b)) (.int .i64 k) ok).run Tryz.prog w = .ok (if ok then .tuple #[shV k, .bool (kdB k)] else shV k) w := by
  unfold Instr.lookup
  have z : (zeroValue 56).run Tryz.prog w = .ok (.agg #[.nilFunc, .nilFunc, .nilFunc]) w := by rw [sh_zero]
  simp only [Sem.run_bind, run_underlying Tryz.underlying57, Result.andThen, Go.MapKept.run_getObj_map (show w.heap[b]? = some (.map shE 6) from h), Sem.run_pure, run_checkKey Tryz.underlying3 (show IsKey _ (.int .i64 k) from rfl), run_findKey Tryz.underlying3 (sh_find k)]
  cases hk : kdB k
  · simp only [Bool.false_eq_true, if_false, Sem.run_bind, z, Result.andThen, Sem.run_pure, shV_no k hk]
    all_goals (try (cases ok <;> rfl))
  · simp only [if_true, Sem.run_pure, Result.andThen]
    all_goals (try (cases ok <;> rfl))
end Go.Proofs.YtjdpeedghpblgaaGreatDoor
/- Package hand: Fit. -/
set_option linter.all false
set_option maxRecDepth 100000
namespace Go.Proofs.YtjdpeedghpblgaaGreatDoor
open Go.RowKit Go.Sort Go.Shelf
theorem tH : Ty 56 3 := ⟨⟨_, Tryz.underlying56, rfl⟩, by kernel_rfl⟩
def fnL (a b c : Value) : List Value := [a, b, c]
def fnC (a b c : Value) (j : Nat) : Value := if j = 0 then a else if j = 1 then b else c
theorem fn_cells (a b c : Value) (ha : a.oneCell' = true) (hb : b.oneCell' = true) (hc : c.oneCell' = true) : Cells (fnL a b c) 3 (fnC a b c) := by
  refine ⟨rfl, fun j hj => ?_, fun v hv => ?_⟩
  · have : j = 0 ∨ j = 1 ∨ j = 2 := by omega
    rcases this with rfl | rfl | rfl <;> rfl
  · simp only [fnL, List.mem_cons, List.not_mem_nil, or_false] at hv
    rcases hv with rfl | rfl | rfl <;> assumption
theorem run_store3 {L : List Value} {F : Nat → Value} (c : Cells L 3 F) {W : World} {b : Nat} {g : Nat → Value} (A : Arr W b 3 g) : (Instr.storeAt 56 (.pointer (some ⟨b, 0, none⟩)) (.agg L.toArray)).run Tryz.prog W = .ok () (W.setCells b 0 L) := by
  have hs : L.toArray.size = 3 := by rw [List.size_toArray]; exact c.len
  have := run_storeAt_mid (P := Tryz.prog) W b 0 56 L.toArray (by rw [hs]; exact A.there) (by rw [hs]; exact tH.i) (all_oneCell_toArray c.one)
  simpa using this
theorem on_set {ls : Array Bool} {i j : Nat} (h : j ≠ i) : (ls.setIfInBounds i true).getD j false = ls.getD j false := getD_set_ne false (fun e => h e.symm)
theorem fl_tt {ls : Array Bool} {i : Nat} (h : ls.getD i false = true) : ls.getD i true = true := by
  rw [Array.getD_eq_getD_getElem?] at h ⊢
  cases hq : ls[i]? with
  | none => rw [hq] at h; cases h
  | some x => rw [hq] at h; exact h
theorem fl_set {ls : Array Bool} {i : Nat} (h : i < ls.size) : (ls.setIfInBounds i true).getD i false = true := by simp [h]
theorem fl_ft {ls : Array Bool} {i : Nat} (h : i < ls.size) (q : ls.getD i true = true) : ls.getD i false = true := by simp [h] at q ⊢; exact q
theorem fl_keep {ls : Array Bool} {i j : Nat} (h : ls.getD j false = true) : (ls.setIfInBounds i true).getD j false = true := by
  by_cases e : j = i
  · subst e
    have : j < ls.size := by
      rw [Array.getD_eq_getD_getElem?] at h
      cases hq : ls[j]? with
      | none => rw [hq] at h; cases h
      | some x => exact (Array.getElem?_eq_some_iff.1 hq).1
    exact fl_set this
  · rw [getD_set_ne false (fun q => e q.symm)]; exact h
/-- What Fit's second region gives. -/
def ftV (b1 N : Nat) (k : Int) (B : Bool) (a b c : Value) (ls : Array Bool) : Nat → Value → World → Prop
  | 0, v, W => ∃ bm, v = .map (some bm) ∧ (ls.getD 8 false = true ∨ Shp W bm)
  | 1, v, _ => v = .pointer (some ⟨b1, 0, none⟩)
  | 2, v, _ => v = .int .i64 k
  | 3, v, _ => v = .tuple #[.agg (fnL a b c).toArray, .bool B]
  | 4, v, _ => v = .tuple #[.agg (fnL a b c).toArray, .bool B]
  | 5, v, _ => v = .agg (fnL a b c).toArray
  | 6, v, _ => v = .bool B
  | 7, v, W => ∃ b3, v = .pointer (some ⟨b3, 0, none⟩) ∧ N ≤ b3 ∧ Arr W b3 3 (if ls.getD 8 false = true then fnC a b c else fnC .nilFunc .nilFunc .nilFunc)
  | 8, _, _ => ls.getD 3 false = true ∧ ls.getD 7 false = true
  | 9, v, _ => v = .bool B
  | _, _, _ => False
theorem ftV.st {b1 N : Nat} {k : Int} {B : Bool} {a b c : Value} {ls : Array Bool} {i : Nat} (hi : i ≠ 8) (j : Nat) (v : Value) {W W' : World} (h : ftV b1 N k B a b c ls j v W) (hb : Below W.heap.size W W') : ftV b1 N k B a b c (ls.setIfInBounds i true) j v W' := by
  have e8 := on_set (ls := ls) (i := i) (j := 8) (fun e => hi e.symm)
  match j, h with
  | 0, h =>
    obtain ⟨bm, h1, h2⟩ := h
    refine ⟨bm, h1, ?_⟩
    rw [e8]
    rcases h2 with h2 | h2
    · exact .inl h2
    · exact .inr (h2.to hb)
  | 7, h =>
    obtain ⟨b3, h1, h2, h3⟩ := h
    refine ⟨b3, h1, h2, ?_⟩
    rw [e8]
    exact Arr.to' (n := 2) h3 hb
  | 8, h => exact ⟨fl_keep h.1, fl_keep h.2⟩
  | 1, h | 2, h | 3, h | 4, h | 5, h | 6, h | 9, h => exact h
set_option maxHeartbeats 4000000 in
theorem fit_core (m : Mg) (k : Int) (hk : m.k = k) (a b c : Value) (B R : Bool) (ha : a.oneCell' = true) (hb' : b.oneCell' = true) (hc' : c.oneCell' = true) (hV : shV k = .agg (fnL a b c).toArray) (hK : kdB k = B) (a0 : Option Addr) (cc : Nat) (w : World)
    (no : B = false → R = false) (F : FuncId) (EF : Enters Tryz.prog F) (yes : B = true → a = .func (.func F) #[] #[] ∧ ∀ W, Below w.heap.size w W → Calls Tryz.prog F #[m.v (.slice a0 m.cs.length cc)] W fun e w' => e = .returned (.bool R) ∧ Below W.heap.size W w') :
    Calls Tryz.prog 12 #[m.v (.slice a0 m.cs.length cc)] w fun e w' => e = .returned (.bool R) ∧ Below w.heap.size w w' := by
  have hC := fn_cells a b c ha hb' hc'
  have hL := m.cells (.slice a0 m.cs.length cc) rfl
  rw [m.v_l] at *
  have F0 : m.c (.slice a0 m.cs.length cc) 0 = .int .i64 k := by show Value.int .i64 m.k = _; rw [hk]
  generalize m.l (.slice a0 m.cs.length cc) = L at *
  have A1 := hL.new w 29 w.heap.size rfl
  have hB1 : Below w.heap.size w (w.alloc (.cells L.toArray 29)) := by go_grown
  have E := fun args W => EF args W
  have HY : Hid _ := yes
  have HN : Hid _ := no
  clear yes no
  go_enter Tryz.func12, Tryz.ntmps12
  go_upto_region 1 with (fail)
  generalize w.alloc (.cells L.toArray 29) = W1 at *
  have z1 := Arr.lt (n := 15) A1
  refine wp_region_st (Below W1.heap.size) (ftV w.heap.size W1.heap.size k B a b c) (fun _ _ => True) rfl (by kernel_rfl) (by kernel_rfl) (fun d => ⟨rfl, rfl, rfl, Nat.le_refl _, fun _ _ => rfl⟩) (fun _ => trivial) (fun _ _ _ h1 h2 => h1.trans h2) ?_ ?_
  · intro ls i o ρ W hi ho hz hun hdep hA _ hW hP hS
    have ci : i = 0 ∨ i = 1 ∨ i = 2 ∨ i = 3 ∨ i = 4 ∨ i = 5 ∨ i = 6 ∨ i = 7 ∨ i = 8 ∨ i = 9 := by simp only [List.length_cons, List.length_nil] at hi; omega
    have hc := hP.c
    have hf := hP.f
    have AW := Arr.to' (n := 15) A1 hW
    have rf : ∀ {ll : List Oper} {i : Nat}, i ≠ 8 → (Below W1.heap.size W W ∧ True ∧ ∀ j v, j < 10 → j ≠ i → ls.getD j true = true → (∀ t, dAt ll j = some t → v = ρ (.tmp t)) → ftV w.heap.size W1.heap.size k B a b c ls j v W → ftV w.heap.size W1.heap.size k B a b c (ls.setIfInBounds i true) j v W) := fun h => ⟨Below.refl _ _, trivial, fun j v _ _ _ _ q => ftV.st h j v q (Below.refl _ _)⟩
    rcases ci with rfl | rfl | rfl | rfl | rfl | rfl | rfl | rfl | rfl | rfl <;> cases ho
    · rw [show (execOp ρ _).run Tryz.prog W = .ok (.enter 21 #[]) W by simp [execOp, hf, go_sem] <;> rfl]
      refine ⟨rfl, (shapes_any W).mono ?_⟩
      rintro e w' ⟨rfl, hs, hb⟩
      exact .inl ⟨_, rfl, ⟨hb.mono hW.size, trivial, fun j v _ _ _ _ q => ftV.st (by decide) j v q hb⟩, _, rfl, .inr hs⟩
    · have h' : ρ (.tmp 1) = .pointer (some ⟨w.heap.size, 0, none⟩) := hS 1 (by kernel_rfl)
      exact .of (StG.val (by simp [execOp, h', go_sem] <;> rfl) (rf (by decide)) rfl)
    · have h' : ρ (.tmp 7) = _ := hS 7 (by kernel_rfl)
      have l0 := AW.cv 0 (by omega) _ F0
      exact .of (StG.val (by simp [execOp, h', l0, go_sem] <;> rfl) (rf (by decide)) rfl)
    · obtain ⟨bm, h1, h2⟩ : ∃ bm, ρ (.tmp 6) = .map (some bm) ∧ (ls.getD 8 false = true ∨ Shp W bm) := hS 6 (by kernel_rfl)
      have h3 : ρ (.tmp 8) = _ := hS 8 (by kernel_rfl)
      have hs : Shp W bm := by
        rcases h2 with h2 | h2
        · exfalso
          have h8 : ls.getD 8 true = true := fl_tt h2
          obtain ⟨_, h4⟩ := hA 8 (by decide) h8
          have h5 : ls.getD 3 false = true := h4.1
          rw [fl_tt h5] at hun
          cases hun
        · exact h2
      have lk := hs.look k true
      rw [hV, hK] at lk
      exact .of (StG.val (by simp only [execOp, h1, h3, lk, Sem.run_bind, Result.andThen_ok, Sem.run_pure] <;> rfl) (rf (by decide)) rfl)
    · have h' : ρ (.tmp 9) = _ := hS 9 (by kernel_rfl)
      exact .of (StG.val (by simp [execOp, h', go_sem] <;> rfl) (rf (by decide)) rfl)
    · have h' : ρ (.tmp 5) = _ := hS 5 (by kernel_rfl)
      exact .of (StG.val (by simp [execOp, h', go_sem] <;> rfl) (rf (by decide)) rfl)
    · have h' : ρ (.tmp 5) = _ := hS 5 (by kernel_rfl)
      exact .of (StG.val (by simp [execOp, h', go_sem] <;> rfl) (rf (by decide)) rfl)
    · have nw : Arr (W.alloc (.cells #[.nilFunc, .nilFunc, .nilFunc] 56)) W.heap.size 3 (fnC .nilFunc .nilFunc .nilFunc) := (fn_cells .nilFunc .nilFunc .nilFunc rfl rfl rfl).new W 56 W.heap.size rfl
      have h8 : (ls.setIfInBounds 7 true).getD 8 false = false := by
        rw [on_set (by decide)]
        cases hq : ls.getD 8 false with
        | false => rfl
        | true =>
          exfalso
          obtain ⟨_, h4⟩ := hA 8 (by decide) (fl_tt hq)
          have h5 : ls.getD 7 false = true := h4.2
          rw [fl_tt h5] at hun
          cases hun
      have bb := Below.alloc (Below.refl W.heap.size W) (Nat.le_refl _) (.cells #[.nilFunc, .nilFunc, .nilFunc] 56)
      refine .of (StG.new (w' := W.alloc (.cells #[.nilFunc, .nilFunc, .nilFunc] 56)) (v := .pointer (some ⟨W.heap.size, 0, none⟩)) (by simp [execOp, go_sem] <;> rfl) ⟨bb.mono hW.size, trivial, fun j v _ _ _ _ q => ftV.st (by decide) j v q bb⟩ ⟨W.heap.size, rfl, hW.size, ?_⟩)
      rw [h8]
      exact nw
    · obtain ⟨b3, h1, h2, h3⟩ : ∃ b3, ρ (.tmp 3) = .pointer (some ⟨b3, 0, none⟩) ∧ W1.heap.size ≤ b3 ∧ Arr W b3 3 _ := hS 3 (by kernel_rfl)
      have h4 : ρ (.tmp 10) = .agg (fnL a b c).toArray := hS 10 (by kernel_rfl)
      have d3 : ls.getD 3 false = true := hdep ⟨3, .phase⟩ (by simp) rfl
      have d7 : ls.getD 7 false = true := hdep ⟨7, .phase⟩ (by simp) rfl
      have n8 : 8 < ls.size := by rw [hz]; decide
      refine .of (StG.put (w' := W.setCells b3 0 (fnL a b c)) (by simp only [execOp, h1, h4, Sem.run_bind, run_store3 hC h3, Result.andThen_ok, Sem.run_pure] <;> rfl) ⟨below_setCells (Below.refl _ W) h2 (fnL a b c) 0, trivial, fun j v hj hne hd hv q => ?_⟩ ⟨fl_keep d3, fl_keep d7⟩)
      have cj : j = 0 ∨ j = 1 ∨ j = 2 ∨ j = 3 ∨ j = 4 ∨ j = 5 ∨ j = 6 ∨ j = 7 ∨ j = 9 := by simp only [List.length_cons, List.length_nil] at hj; omega
      rcases cj with rfl | rfl | rfl | rfl | rfl | rfl | rfl | rfl | rfl
      · obtain ⟨bm, q1, _⟩ := q
        exact ⟨bm, q1, .inl (fl_set n8)⟩
      · exact q
      · exact q
      · exact q
      · exact q
      · exact q
      · exact q
      · obtain ⟨b3', q1, q2, q3⟩ := q
        have e := hv 3 rfl
        rw [q1, h1] at e
        cases e
        refine ⟨b3, q1, h2, ?_⟩
        rw [fl_set n8]
        exact hC.set h3
      · exact q
    · have h' : ρ (.tmp 11) = _ := hS 11 (by kernel_rfl)
      exact .of (StG.val (by simp [execOp, h', go_sem] <;> rfl) (rf (by decide)) rfl)
  intro ls x W hz hall _ hW hv
  have h9 : x 9 = .bool B := hv 9 (by decide)
  have n8 : ls.getD 8 false = true := fl_ft (by rw [hz]; decide) (hall 8 (by decide))
  obtain ⟨b3, h7, z3, A3⟩ : ∃ b3, x 7 = .pointer (some ⟨b3, 0, none⟩) ∧ W1.heap.size ≤ b3 ∧ Arr W b3 3 _ := hv 7 (by decide)
  rw [n8] at A3
  have A1' := Arr.to' (n := 15) A1 hW
  have hB2 := Bel.call hB1 hW
  clear hv hall A1 hW
  simp only [puts, Act.put, List.setIfInBounds_toArray, List.set_cons_succ, List.set_cons_zero, h9, h7]
  cases B with
  | false =>
    have HR : Hid (R = false) := HN.out rfl
    go_wp2_with fail
    go_ret
    exact ⟨by rw [HR.out]; rfl, hB2⟩
  | true =>
    obtain ⟨ea, CF⟩ := HY.out rfl
    have CF' := CF W hB2
    have l0 := A3.cv 0 (by omega) a rfl
    subst ea
    clear CF HY HN A3
    go_wp2_with (first | (refine Cells.wldg hL tM A1' 0 (by omega) (fun j _ => by rw [Nat.zero_add]) (by rfl) (.tmp 1) (by rfl) (by rfl) ?_))
    refine CF'.mono ?_
    rintro e w' ⟨rfl, hb⟩
    go_wp2_with fail
    go_ret
    exact ⟨rfl, Bel.call hB2 hb⟩
theorem Fit_any (m : Mg) (fits : m.ok) (y1 : m.cs.length ≤ 9223372036854775807) (y2 : ∀ t ∈ m.cs, t.size ≤ 9223372036854775807) (y3 : m.nm.size ≤ 9223372036854775807) (u : Value) (w : World) (hu : Txs w u m.cs) :
    Calls Tryz.prog 12 #[m.v u] w fun e w' => e = .returned (.bool (ftB m)) ∧ Below w.heap.size w w' := by
  obtain ⟨a0, cc, rfl, _⟩ := hu.form
  by_cases h1 : m.k = 1
  · exact fit_core m 1 h1 (.func (.func 34) #[] #[]) (.func (.func 35) #[] #[]) (.func (.func 36) #[] #[]) true _ rfl rfl rfl rfl rfl a0 cc w (fun e => by cases e) 34 (enters_of Tryz.func34 (by kernel_rfl) rfl) (fun _ => ⟨rfl, fun W hB => fCl m h1 fits y1 y2 y3 _ W (hu.to hB)⟩)
  by_cases h2 : m.k = 2
  · exact fit_core m 2 h2 (.func (.func 37) #[] #[]) (.func (.func 38) #[] #[]) (.func (.func 39) #[] #[]) true _ rfl rfl rfl rfl rfl a0 cc w (fun e => by cases e) 37 (enters_of Tryz.func37 (by kernel_rfl) rfl) (fun _ => ⟨rfl, fun W hB => fSv m h2 fits y1 y2 y3 _ W (hu.to hB)⟩)
  by_cases h8 : m.k = 8
  · exact fit_core m 8 h8 (.func (.func 40) #[] #[]) (.func (.func 41) #[] #[]) (.func (.func 42) #[] #[]) true _ rfl rfl rfl rfl rfl a0 cc w (fun e => by cases e) 40 (enters_of Tryz.func40 (by kernel_rfl) rfl) (fun _ => ⟨rfl, fun W hB => fEx m h8 fits y1 y2 y3 _ W (hu.to hB)⟩)
  by_cases h11 : m.k = 11
  · exact fit_core m 11 h11 (.func (.func 43) #[] #[]) (.func (.func 44) #[] #[]) (.func (.func 45) #[] #[]) true _ rfl rfl rfl rfl rfl a0 cc w (fun e => by cases e) 43 (enters_of Tryz.func43 (by kernel_rfl) rfl) (fun _ => ⟨rfl, fun W hB => fCt m h11 fits y1 y2 y3 _ W (hu.to hB)⟩)
  by_cases h15 : m.k = 15
  · exact fit_core m 15 h15 (.func (.func 46) #[] #[]) (.func (.func 47) #[] #[]) (.func (.func 48) #[] #[]) true _ rfl rfl rfl rfl rfl a0 cc w (fun e => by cases e) 46 (enters_of Tryz.func46 (by kernel_rfl) rfl) (fun _ => ⟨rfl, fun W hB => fVf m h15 fits y1 y2 y3 _ W (hu.to hB)⟩)
  by_cases h20 : m.k = 20
  · exact fit_core m 20 h20 (.func (.func 49) #[] #[]) (.func (.func 50) #[] #[]) (.func (.func 51) #[] #[]) true _ rfl rfl rfl rfl rfl a0 cc w (fun e => by cases e) 49 (enters_of Tryz.func49 (by kernel_rfl) rfl) (fun _ => ⟨rfl, fun W hB => fFi m h20 fits y1 y2 y3 _ W (hu.to hB)⟩)
  have hk : kdB m.k = false := by unfold kdB; simp [h1, h2, h8, h11, h15, h20]
  have hf : ftB m = false := by unfold ftB; rw [hk]; rfl
  rw [hf]
  exact fit_core m m.k rfl .nilFunc .nilFunc .nilFunc false false rfl rfl rfl (shV_no _ hk) hk a0 cc w (fun _ => rfl) 34 (enters_of Tryz.func34 (by kernel_rfl) rfl) (fun e => by cases e)
end Go.Proofs.YtjdpeedghpblgaaGreatDoor
/- Package hand: a signature's body as bytes. -/
set_option linter.all false
set_option maxRecDepth 100000
namespace Go.Proofs.YtjdpeedghpblgaaGreatDoor
open Go.RowKit Go.Sort Go.Shelf
def wvV (b1 B : Nat) (x y : Value) (N0 N1 X : ByteArray) (ls : Array Bool) : Nat → Value → World → Prop
  | 0, v, _ => v = .pointer (some ⟨b1, 7, none⟩)
  | 1, v, _ => v = .pointer (some ⟨b1, 7, none⟩)
  | 2, v, _ => v = x
  | 3, v, _ => v = tlv 2 N0
  | 4, v, _ => v = .pointer (some ⟨b1, 7, none⟩)
  | 5, v, _ => v = .pointer (some ⟨b1, 11, none⟩)
  | 6, v, _ => v = y
  | 7, v, _ => v = tlv 2 N1
  | 8, v, w => ∃ g, v = .slice (some ⟨g, 0, none⟩) 2 2 ∧ (ls.getD 14 false = true ∨ w.cell? ⟨g, 0, none⟩ = some (.int .i64 2) ∧ w.cell? ⟨g, 1, none⟩ = some (.string N0) ∧ w.cell? ⟨g, 2, none⟩ = some (.int .i64 2) ∧ w.cell? ⟨g, 3, none⟩ = some (.string N1))
  | 9, v, _ => v = .tuple #[tlv 48 X, .int .i64 0]
  | 10, v, _ => v = .tuple #[tlv 48 X, .int .i64 0]
  | 11, v, _ => v = tlv 48 X
  | 12, v, _ => v = .int .i64 0
  | 13, v, w => ∃ b, v = .pointer (some ⟨b, 0, none⟩) ∧ B ≤ b ∧ w.cell? ⟨b, 0, none⟩ = some (.int .i64 (if ls.getD 14 false = true then 48 else 0)) ∧ w.cell? ⟨b, 1, none⟩ = some (.string (if ls.getD 14 false = true then X else nS)) ∧ w.frozen? ⟨b, 0, none⟩ = false ∧ w.frozen? ⟨b, 1, none⟩ = false
  | 14, _, _ => ls.getD 9 false = true ∧ ls.getD 13 false = true
  | 15, v, _ => v = .int .i64 0
  | _, _, _ => False
theorem wvV.st {b1 B : Nat} {x y : Value} {N0 N1 X : ByteArray} {ls : Array Bool} {i : Nat} (hi : i ≠ 14) (j : Nat) (v : Value) {w w' : World} (h : wvV b1 B x y N0 N1 X ls j v w) (hb : Below w.heap.size w w') : wvV b1 B x y N0 N1 X (ls.setIfInBounds i true) j v w' := by
  have e8 := on_set (ls := ls) (i := i) (j := 14) (fun e => hi e.symm)
  match j, h with
  | 0, h | 1, h | 2, h | 3, h | 4, h | 5, h | 6, h | 7, h | 9, h | 10, h | 11, h | 12, h | 15, h => exact h
  | 8, ⟨g, e, h⟩ =>
    refine ⟨g, e, ?_⟩
    rw [e8]
    rcases h with h | ⟨c0, c1, c2, c3⟩
    · exact .inl h
    · exact .inr ⟨(hb.cell (block_lt_of_cell c0)).trans c0, (hb.cell (block_lt_of_cell c1)).trans c1, (hb.cell (block_lt_of_cell c2)).trans c2, (hb.cell (block_lt_of_cell c3)).trans c3⟩
  | 13, ⟨b, e, hB, c0, c1, f0, f1⟩ =>
    refine ⟨b, e, hB, ?_, ?_, (hb.frozen (p := ⟨b, 0, none⟩) (block_lt_of_cell c0)).trans f0, (hb.frozen (p := ⟨b, 1, none⟩) (block_lt_of_cell c1)).trans f1⟩
    · rw [e8]; exact (hb.cell (block_lt_of_cell c0)).trans c0
    · rw [e8]; exact (hb.cell (block_lt_of_cell c1)).trans c1
  | 14, h => exact ⟨fl_keep h.1, fl_keep h.2⟩
set_option maxHeartbeats 4000000 in
theorem wVf (m : Mg) (hk : m.k = 15) (hok : m.ok) (a0 : Option Addr) (n c : Nat) (w : World) :
    Calls Tryz.prog 47 #[m.v (.slice a0 n c)] w fun e w' => e = .returned (.string (bdy m)) ∧ Below w.heap.size w w' := by
  obtain ⟨N0, e0⟩ : ∃ V, V = mkS (inL m.x) := ⟨_, rfl⟩
  obtain ⟨N1, e1⟩ : ∃ V, V = mkS (inL m.y) := ⟨_, rfl⟩
  obtain ⟨X, eX⟩ : ∃ V, V = wrS 2 N0 ++ wrS 2 N1 := ⟨_, rfl⟩
  obtain ⟨S, eS⟩ : ∃ V, V = wrS 48 X := ⟨_, rfl⟩
  obtain ⟨V2, eV⟩ : ∃ V, V = vec 2 S := ⟨_, rfl⟩
  have HB : Hid (bdy m = (⟨#[4, 3]⟩ : ByteArray) ++ V2) := by show _ = _; rw [eV, eS, eX, e0, e1]; unfold bdy; simp [hk]; rfl
  have y0 : N0.size ≤ 33 := by rw [e0, mkS_size]; exact inL_len _
  have y1 : N1.size ≤ 33 := by rw [e1, mkS_size]; exact inL_len _
  have I0 := fun W => integer_any m.x hok.1 hok.2.1 W
  have I1 := fun W => integer_any m.y hok.2.2.1 hok.2.2.2 W
  rw [← e0] at I0
  rw [← e1] at I1
  have yX : X.size ≤ 70 := by rw [eX, ap_size, wrS_size _ _ (by omega), wrS_size _ _ (by omega)]; omega
  have yS : S.size ≤ 72 := by rw [eS, wrS_size _ _ (by omega)]; omega
  have RW := fun g W c0 c1 c2 c3 => row2_any N0 N1 (by omega) (by omega) X eX.symm g 2 W c0 c1 c2 c3
  have WY := fun W => write_yes 48 X (by unfold wrE; simp [tagB]; omega) W
  rw [← eS] at WY
  have V3 := fun W => hvec_any 2 S (by omega) (by omega) W
  rw [← eV] at V3
  have zV : (V2.size : Int) ≤ 80 := by rw [eV, vec_size]; omega
  have hL := m.cells (.slice a0 n c) rfl
  rw [m.v_l] at *
  have F7 : m.c (.slice a0 n c) 7 = .int .u64 (lim m.x 0) := rfl
  have F8 : m.c (.slice a0 n c) 8 = .int .u64 (lim m.x 1) := rfl
  have F9 : m.c (.slice a0 n c) 9 = .int .u64 (lim m.x 2) := rfl
  have F10 : m.c (.slice a0 n c) 10 = .int .u64 (lim m.x 3) := rfl
  have F11 : m.c (.slice a0 n c) 11 = .int .u64 (lim m.y 0) := rfl
  have F12 : m.c (.slice a0 n c) 12 = .int .u64 (lim m.y 1) := rfl
  have F13 : m.c (.slice a0 n c) 13 = .int .u64 (lim m.y 2) := rfl
  have F14 : m.c (.slice a0 n c) 14 = .int .u64 (lim m.y 3) := rfl
  unfold nv at I0 I1
  generalize lim m.x 0 = x0 at *
  generalize lim m.x 1 = x1 at *
  generalize lim m.x 2 = x2 at *
  generalize lim m.x 3 = x3 at *
  generalize lim m.y 0 = v0 at *
  generalize lim m.y 1 = v1 at *
  generalize lim m.y 2 = v2 at *
  generalize lim m.y 3 = v3 at *
  generalize m.l (.slice a0 n c) = L at *
  have A1 := hL.new w 29 w.heap.size rfl
  have hB1 : Below w.heap.size w (w.alloc (.cells L.toArray 29)) := by go_grown
  clear e0 e1 eX eS eV
  go_enter Tryz.func47, Tryz.ntmps47
  go_upto_region 1 with (fail)
  generalize w.alloc (.cells L.toArray 29) = W1 at *
  have l7 := A1.cv 7 (by omega) _ F7
  have l8 := A1.cv 8 (by omega) _ F8
  have l9 := A1.cv 9 (by omega) _ F9
  have l10 := A1.cv 10 (by omega) _ F10
  have l11 := A1.cv 11 (by omega) _ F11
  have l12 := A1.cv 12 (by omega) _ F12
  have l13 := A1.cv 13 (by omega) _ F13
  have l14 := A1.cv 14 (by omega) _ F14
  clear A1 F7 F8 F9 F10 F11 F12 F13 F14
  refine wp_region_st (Below W1.heap.size) (wvV w.heap.size W1.heap.size (.agg #[.int .u64 x0, .int .u64 x1, .int .u64 x2, .int .u64 x3]) (.agg #[.int .u64 v0, .int .u64 v1, .int .u64 v2, .int .u64 v3]) N0 N1 X) (fun _ _ => True) rfl (by kernel_rfl) (by kernel_rfl) (fun d => ⟨rfl, rfl, rfl, Nat.le_refl _, fun _ _ => rfl⟩) (fun _ => trivial) (fun _ _ _ h1 h2 => h1.trans h2) ?_ ?_
  · intro ls i o ρ W hi ho hz hun hdep hA _ hW hP hS
    have ci : i = 0 ∨ i = 1 ∨ i = 2 ∨ i = 3 ∨ i = 4 ∨ i = 5 ∨ i = 6 ∨ i = 7 ∨ i = 8 ∨ i = 9 ∨ i = 10 ∨ i = 11 ∨ i = 12 ∨ i = 13 ∨ i = 14 ∨ i = 15 := by simp only [List.length_cons, List.length_nil] at hi; omega
    have rf : ∀ {ll : List Oper} {i : Nat}, i ≠ 14 → (Below W1.heap.size W W ∧ True ∧ ∀ j v, j < 16 → j ≠ i → ls.getD j true = true → (∀ t, dAt ll j = some t → v = ρ (.tmp t)) → wvV w.heap.size W1.heap.size (.agg #[.int .u64 x0, .int .u64 x1, .int .u64 x2, .int .u64 x3]) (.agg #[.int .u64 v0, .int .u64 v1, .int .u64 v2, .int .u64 v3]) N0 N1 X ls j v W → wvV w.heap.size W1.heap.size (.agg #[.int .u64 x0, .int .u64 x1, .int .u64 x2, .int .u64 x3]) (.agg #[.int .u64 v0, .int .u64 v1, .int .u64 v2, .int .u64 v3]) N0 N1 X (ls.setIfInBounds i true) j v W) := fun h => ⟨Below.refl _ _, trivial, fun j v _ _ _ _ q => wvV.st h j v q (Below.refl _ _)⟩
    have rg : ∀ {ll : List Oper} {i : Nat} {W' : World}, i ≠ 14 → Below W.heap.size W W' → (Below W1.heap.size W W' ∧ True ∧ ∀ j v, j < 16 → j ≠ i → ls.getD j true = true → (∀ t, dAt ll j = some t → v = ρ (.tmp t)) → wvV w.heap.size W1.heap.size (.agg #[.int .u64 x0, .int .u64 x1, .int .u64 x2, .int .u64 x3]) (.agg #[.int .u64 v0, .int .u64 v1, .int .u64 v2, .int .u64 v3]) N0 N1 X ls j v W → wvV w.heap.size W1.heap.size (.agg #[.int .u64 x0, .int .u64 x1, .int .u64 x2, .int .u64 x3]) (.agg #[.int .u64 v0, .int .u64 v1, .int .u64 v2, .int .u64 v3]) N0 N1 X (ls.setIfInBounds i true) j v W') := fun h hb => ⟨hb.mono hW.size, trivial, fun j v _ _ _ _ q => wvV.st h j v q hb⟩
    have hc := hP.c
    have hf := hP.f
    rcases ci with rfl | rfl | rfl | rfl | rfl | rfl | rfl | rfl | rfl | rfl | rfl | rfl | rfl | rfl | rfl | rfl <;> cases ho
    · have h' : ρ (.tmp 1) = .pointer (some ⟨w.heap.size, 0, none⟩) := hS 1 (by kernel_rfl)
      exact .of (StG.val (by simp [execOp, h', go_sem] <;> rfl) (rf (by decide)) rfl)
    · have h' : ρ (.tmp 8) = .pointer (some ⟨w.heap.size, 7, none⟩) := hS 8 (by kernel_rfl)
      exact .of (StG.val (by simp [execOp, h', go_sem] <;> rfl) (rf (by decide)) rfl)
    · have h' : ρ (.tmp 9) = .pointer (some ⟨w.heap.size, 7, none⟩) := hS 9 (by kernel_rfl)
      have q0 := (hW.cell (block_lt_of_cell l7)).trans l7
      have q1 := (hW.cell (block_lt_of_cell l8)).trans l8
      have q2 := (hW.cell (block_lt_of_cell l9)).trans l9
      have q3 := (hW.cell (block_lt_of_cell l10)).trans l10
      exact .of (StG.val (by simp [execOp, h', q0, q1, q2, q3, go_sem] <;> rfl) (rf (by decide)) rfl)
    · have h' : ρ (.tmp 10) = _ := hS 10 (by kernel_rfl)
      exact .of (StG.call (by simp [execOp, h', hc, hf, go_sem] <;> rfl) (I0 W) (fun _ hb => rg (by decide) hb) (fun _ _ => rfl))
    · have h' : ρ (.tmp 1) = .pointer (some ⟨w.heap.size, 0, none⟩) := hS 1 (by kernel_rfl)
      exact .of (StG.val (by simp [execOp, h', go_sem] <;> rfl) (rf (by decide)) rfl)
    · have h' : ρ (.tmp 12) = .pointer (some ⟨w.heap.size, 7, none⟩) := hS 12 (by kernel_rfl)
      exact .of (StG.val (by simp [execOp, h', go_sem] <;> rfl) (rf (by decide)) rfl)
    · have h' : ρ (.tmp 13) = .pointer (some ⟨w.heap.size, 11, none⟩) := hS 13 (by kernel_rfl)
      have q0 := (hW.cell (block_lt_of_cell l11)).trans l11
      have q1 := (hW.cell (block_lt_of_cell l12)).trans l12
      have q2 := (hW.cell (block_lt_of_cell l13)).trans l13
      have q3 := (hW.cell (block_lt_of_cell l14)).trans l14
      exact .of (StG.val (by simp [execOp, h', q0, q1, q2, q3, go_sem] <;> rfl) (rf (by decide)) rfl)
    · have h' : ρ (.tmp 14) = _ := hS 14 (by kernel_rfl)
      exact .of (StG.call (by simp [execOp, h', hc, hf, go_sem] <;> rfl) (I1 W) (fun _ hb => rg (by decide) hb) (fun _ _ => rfl))
    · have h1 : ρ (.tmp 11) = tlv 2 N0 := hS 11 (by kernel_rfl)
      have h2 : ρ (.tmp 15) = tlv 2 N1 := hS 15 (by kernel_rfl)
      exact .of (StG.new (w' := W.alloc (.cells #[.int .i64 2, .string N0, .int .i64 2, .string N1] 99)) (by simp [execOp, h1, h2, go_sem] <;> rfl) (rg (by decide) ((Below.refl _ W).alloc (Nat.le_refl _) _)) ⟨W.heap.size, rfl, .inr ⟨by simp [go_sem], by simp [go_sem], by simp [go_sem], by simp [go_sem]⟩⟩)
    · obtain ⟨g, h', h2⟩ : wvV w.heap.size W1.heap.size (.agg #[.int .u64 x0, .int .u64 x1, .int .u64 x2, .int .u64 x3]) (.agg #[.int .u64 v0, .int .u64 v1, .int .u64 v2, .int .u64 v3]) N0 N1 X ls 8 (ρ (.tmp 16)) W := hS 16 (by kernel_rfl)
      rcases h2 with h2 | ⟨c0, c1, c2, c3⟩
      · exfalso
        obtain ⟨_, h4⟩ := hA 14 (by decide) (fl_tt h2)
        have h5 : ls.getD 9 false = true := h4.1
        rw [fl_tt h5] at hun
        cases hun
      · exact .of (StG.call (by simp [execOp, h', hc, hf, go_sem] <;> rfl) (RW g W c0 c1 c2 c3) (fun _ hb => rg (by decide) hb) (fun _ _ => rfl))
    · have h' : ρ (.tmp 17) = _ := hS 17 (by kernel_rfl)
      exact .of (StG.val (by simp [execOp, h', go_sem] <;> rfl) (rf (by decide)) rfl)
    · have h' : ρ (.tmp 7) = _ := hS 7 (by kernel_rfl)
      exact .of (StG.val (by simp [execOp, h', go_sem] <;> rfl) (rf (by decide)) rfl)
    · have h' : ρ (.tmp 7) = _ := hS 7 (by kernel_rfl)
      exact .of (StG.val (by simp [execOp, h', go_sem] <;> rfl) (rf (by decide)) rfl)
    · have h8 : (ls.setIfInBounds 13 true).getD 14 false = false := by
        rw [on_set (by decide)]
        cases hq : ls.getD 14 false with
        | false => rfl
        | true =>
          exfalso
          obtain ⟨_, h4⟩ := hA 14 (by decide) (fl_tt hq)
          have h5 : ls.getD 13 false = true := h4.2
          rw [fl_tt h5] at hun
          cases hun
      refine .of (StG.new (w' := W.alloc (.cells #[.int .i64 0, .string nS] 99)) (v := .pointer (some ⟨W.heap.size, 0, none⟩)) (by simp [execOp, go_sem] <;> rfl) (rg (by decide) ((Below.refl _ W).alloc (Nat.le_refl _) _)) ⟨W.heap.size, rfl, hW.size, ?_, ?_, by simp [go_sem], by simp [go_sem]⟩)
      · rw [h8]; simp [go_sem]
      · rw [h8]; simp [go_sem]
    · obtain ⟨b, h1, h2, c0, c1, f0, f1⟩ : wvV w.heap.size W1.heap.size (.agg #[.int .u64 x0, .int .u64 x1, .int .u64 x2, .int .u64 x3]) (.agg #[.int .u64 v0, .int .u64 v1, .int .u64 v2, .int .u64 v3]) N0 N1 X ls 13 (ρ (.tmp 3)) W := hS 3 (by kernel_rfl)
      have h4 : ρ (.tmp 18) = tlv 48 X := hS 18 (by kernel_rfl)
      have d9 : ls.getD 9 false = true := hdep ⟨9, .phase⟩ (by simp) rfl
      have d13 : ls.getD 13 false = true := hdep ⟨13, .phase⟩ (by simp) rfl
      have n14 : 14 < ls.size := by rw [hz]; decide
      refine .of (StG.put (w' := (W.setCell ⟨b, 0, none⟩ (.int .i64 48)).setCell ⟨b, 1, none⟩ (.string X)) (by simp [execOp, h1, h4, c0, c1, f0, f1, go_sem] <;> rfl) ⟨((Below.refl _ W).setCell (p := ⟨b, 0, none⟩) h2 _).setCell (p := ⟨b, 1, none⟩) h2 _, trivial, fun j v hj hne hd hv q => ?_⟩ ⟨fl_keep d9, fl_keep d13⟩)
      have cj : j = 0 ∨ j = 1 ∨ j = 2 ∨ j = 3 ∨ j = 4 ∨ j = 5 ∨ j = 6 ∨ j = 7 ∨ j = 8 ∨ j = 9 ∨ j = 10 ∨ j = 11 ∨ j = 12 ∨ j = 13 ∨ j = 15 := by simp only [List.length_cons, List.length_nil] at hj; omega
      rcases cj with rfl | rfl | rfl | rfl | rfl | rfl | rfl | rfl | rfl | rfl | rfl | rfl | rfl | rfl | rfl
      · exact q
      · exact q
      · exact q
      · exact q
      · exact q
      · exact q
      · exact q
      · exact q
      · obtain ⟨g, q1, _⟩ := q
        exact ⟨g, q1, .inl (fl_set n14)⟩
      · exact q
      · exact q
      · exact q
      · exact q
      · obtain ⟨b', q1, _⟩ := q
        have e := hv 3 rfl
        rw [q1, h1] at e
        cases e
        refine ⟨b, q1, h2, ?_, ?_, ?_, ?_⟩
        · rw [fl_set n14]; simp [go_sem, c0, c1]
        · rw [fl_set n14]; simp [go_sem, c0, c1]
        · simp [go_sem, c0, c1, f0, f1]
        · simp [go_sem, c0, c1, f0, f1]
      · exact q
    · have h' : ρ (.tmp 19) = .int .i64 0 := hS 19 (by kernel_rfl)
      exact .of (StG.val (by simp [execOp, h', go_sem] <;> rfl) (rf (by decide)) rfl)
  intro ls z W hz hall _ hW hV
  have h15 : z 15 = .int .i64 0 := hV 15 (by decide)
  have n14 : ls.getD 14 false = true := fl_ft (by rw [hz]; decide) (hall 14 (by decide))
  obtain ⟨b, h13, hb, c0, c1, f0, f1⟩ : wvV w.heap.size W1.heap.size (.agg #[.int .u64 x0, .int .u64 x1, .int .u64 x2, .int .u64 x3]) (.agg #[.int .u64 v0, .int .u64 v1, .int .u64 v2, .int .u64 v3]) N0 N1 X ls 13 (z 13) W := hV 13 (by decide)
  rw [n14] at c0 c1
  replace c0 : W.cell? ⟨b, 0, none⟩ = some (.int .i64 48) := c0
  replace c1 : W.cell? ⟨b, 1, none⟩ = some (.string X) := c1
  have hB3 := Bel.call hB1 hW
  clear hV hW hB1 I0 I1 RW l7 l8 l9 l10 l11 l12 l13 l14
  simp only [puts, Act.put, List.setIfInBounds_toArray, List.set_cons_succ, List.set_cons_zero, h15, h13]
  go_wp2_with fail
  refine (WY _).mono ?_
  rintro e w2 ⟨rfl, hb2⟩
  have hB4 := Bel.call hB3 hb2
  clear hb2 hB3 c0 c1 f0 f1
  go_wp2_with fail
  refine (V3 _).mono ?_
  rintro e w3 ⟨rfl, hb3⟩
  have hB5 := Bel.call hB4 hb3
  clear hb3 hB4
  go_wp2_with fail
  go_ret
  exact ⟨by rw [HB.out]; rfl, hB5⟩
end Go.Proofs.YtjdpeedghpblgaaGreatDoor
/- Package hand: Write. -/
set_option linter.all false
set_option maxRecDepth 100000
namespace Go.Proofs.YtjdpeedghpblgaaGreatDoor
open Go.RowKit Go.Sort Go.Shelf
/-- What the operations of Write's third region give. -/
def hwV (b1 : Nat) (k : Int) (a b c : Value) (L : List Value) (Y : ByteArray) : Nat → Value → World → Prop
  | 0, v, w => ∃ bm, v = .map (some bm) ∧ Shp w bm
  | 1, v, _ => v = .pointer (some ⟨b1, 0, none⟩)
  | 2, v, _ => v = .int .i64 k
  | 3, v, _ => v = .agg (fnL a b c).toArray
  | 4, v, _ => v = b
  | 5, v, _ => v = .agg L.toArray
  | 6, v, _ => v = .string Y
  | _, _, _ => False
theorem hwV.st (b1 : Nat) (k : Int) (a b c : Value) (L : List Value) (Y : ByteArray) (i : Nat) (v : Value) (w w' : World) (h : hwV b1 k a b c L Y i v w) (hb : Below w.heap.size w w') : hwV b1 k a b c L Y i v w' := by
  match i, h with
  | 1, h | 2, h | 3, h | 4, h | 5, h | 6, h => exact h
  | 0, ⟨bm, e, h⟩ => exact ⟨bm, e, h.to hb⟩
set_option maxHeartbeats 4000000 in
theorem hWrite_no (m : Mg) (a0 : Option Addr) (n c : Nat) (w : World)
    (C1 : ∀ W, Below w.heap.size w W → Calls Tryz.prog 12 #[m.v (.slice a0 n c)] W fun e w' => e = .returned (.bool false) ∧ Below W.heap.size W w') :
    Calls Tryz.prog 8 #[m.v (.slice a0 n c)] w fun e w' => e = .returned (.tuple #[.string nS, .int .i64 10]) ∧ Below w.heap.size w w' := by
  have hL := m.cells (.slice a0 n c) rfl
  rw [m.v_l] at *
  generalize m.l (.slice a0 n c) = L at *
  go_enter Tryz.func8, Tryz.ntmps8
  go_upto_region 1 with (fail)
  have A1 : Arr _ _ 16 _ := hL.new w 29 _ rfl
  have hB : Below w.heap.size w (w.alloc (.cells L.toArray 29)) := by go_grown
  generalize w.alloc (.cells L.toArray 29) = W at *
  refine wp_region_list ?_
  refine hL.wld tM A1 0 (by omega) (fun j _ => by rw [Nat.zero_add]) (by rfl) (.tmp 1) (by rfl) (by rfl) ?_
  simp only [Act.put, List.setIfInBounds_toArray, List.set_cons_succ, List.set_cons_zero]
  go_wp2_with fail
  refine (C1 _ hB).mono ?_
  rintro e w1 ⟨rfl, hb⟩
  go_wp2_with fail
  exact bodyPost_ret (v := .tuple #[.string nS, .int .i64 10]) (by simp [results, Tryz.results8, go_sem]) rfl ⟨rfl, Bel.call hB hb⟩
set_option maxHeartbeats 4000000 in
theorem hWrite_yes (m : Mg) (k : Nat) (hk : m.k = (k : Int)) (hk2 : (k : Int) ≤ 255) (a b c : Value) (F : FuncId) (EF : Enters Tryz.prog F) (eb : b = .func (.func F) #[] #[]) (hV : shV k = .agg (fnL a b c).toArray) (a0 : Option Addr) (n cc : Nat) (S1 Y Z X : ByteArray) (hS1 : mkS (dgL 1 k) = S1) (hZ : vec 3 Y = Z) (yY : (Y.size : Int) ≤ 100000) (hX : S1 ++ Z = X) (w : World)
    (C1 : ∀ W, Below w.heap.size w W → Calls Tryz.prog 12 #[m.v (.slice a0 n cc)] W fun e w' => e = .returned (.bool true) ∧ Below W.heap.size W w')
    (C2 : ∀ W, Below w.heap.size w W → Calls Tryz.prog F #[m.v (.slice a0 n cc)] W fun e w' => e = .returned (.string Y) ∧ Below W.heap.size W w') :
    Calls Tryz.prog 8 #[m.v (.slice a0 n cc)] w fun e w' => e = .returned (.tuple #[.string X, .int .i64 0]) ∧ Below w.heap.size w w' := by
  have hL := m.cells (.slice a0 n cc) rfl
  rw [m.v_l] at *
  have F0 : m.c (.slice a0 n cc) 0 = .int .i64 k := by show Value.int .i64 m.k = _; rw [hk]
  have N1 := fun W => hnum_any 1 k (by omega) (by omega) W
  have N3 := fun W => hvec_any 3 Y (by omega) (by omega) W
  rw [hS1] at N1
  rw [hZ] at N3
  have z1 : (S1.size : Int) = 1 := by rw [← hS1, mkS_size, dgL_len]; rfl
  have z3 : (Z.size : Int) ≤ 100003 := by rw [← hZ, vec_size]; omega
  have E := fun args W => EF args W
  have HX : Hid _ := hX
  generalize m.l (.slice a0 n cc) = L at *
  clear hS1 hZ hX
  go_enter Tryz.func8, Tryz.ntmps8
  go_upto_region 1 with (fail)
  have A1 : Arr _ _ 16 _ := hL.new w 29 _ rfl
  have hB : Below w.heap.size w (w.alloc (.cells L.toArray 29)) := by go_grown
  generalize w.alloc (.cells L.toArray 29) = W at *
  refine wp_region_list ?_
  refine hL.wld tM A1 0 (by omega) (fun j _ => by rw [Nat.zero_add]) (by rfl) (.tmp 1) (by rfl) (by rfl) ?_
  simp only [Act.put, List.setIfInBounds_toArray, List.set_cons_succ, List.set_cons_zero]
  go_wp2_with fail
  refine (C1 _ hB).mono ?_
  rintro e w1 ⟨rfl, hb⟩
  replace A1 : Arr _ _ 16 _ := A1.to' (n := 15) hb
  replace hB := Bel.call hB hb
  clear hb
  go_wp2_with fail
  refine wp_region_rel 7 (hwV w.heap.size k a b c L Y) (by kernel_rfl) (by kernel_rfl) (hwV.st _ _ _ _ _ _ _) ?_ ?_
  · intro i o ρ W hi ho hW hP hS
    have ci : i = 0 ∨ i = 1 ∨ i = 2 ∨ i = 3 ∨ i = 4 ∨ i = 5 ∨ i = 6 := by omega
    have AW : Arr _ _ 16 _ := A1.to' (n := 15) hW
    have q0 := AW.cv 0 (by omega) (.int .i64 k) F0
    have hc := hP.c
    have hf := hP.f
    rcases ci with rfl | rfl | rfl | rfl | rfl | rfl | rfl <;> cases ho
    · refine Stp.calls (f := 21) (args := #[]) (by simp [execOp, hf, go_sem] <;> rfl) ((shapes_any W).mono ?_)
      rintro e w' ⟨rfl, hs, hb⟩
      exact ⟨_, rfl, hb, _, rfl, hs⟩
    · have h' : ρ (.tmp 1) = .pointer (some ⟨w.heap.size, 0, none⟩) := hS 1 (by kernel_rfl)
      exact Stp.val (by simp [execOp, h', go_sem] <;> rfl) rfl
    · have h' : ρ (.tmp 9) = .pointer (some ⟨w.heap.size, 0, none⟩) := hS 9 (by kernel_rfl)
      exact Stp.val (by simp [execOp, h', go_sem, q0] <;> rfl) rfl
    · obtain ⟨bm, h1, h2⟩ : ∃ bm, ρ (.tmp 8) = .map (some bm) ∧ Shp W bm := hS 8 (by kernel_rfl)
      have h3 : ρ (.tmp 10) = .int .i64 k := hS 10 (by kernel_rfl)
      have lk := h2.look k false
      rw [hV] at lk
      exact Stp.val (by simp only [execOp, h1, h3, lk, Sem.run_bind, Result.andThen_ok, Sem.run_pure] <;> rfl) rfl
    · have h' : ρ (.tmp 11) = .agg (fnL a b c).toArray := hS 11 (by kernel_rfl)
      exact Stp.val (by simp [execOp, h', fnL, go_sem] <;> rfl) rfl
    · have h' : ρ (.tmp 1) = .pointer (some ⟨w.heap.size, 0, none⟩) := hS 1 (by kernel_rfl)
      exact Stp.val (by simp only [execOp, h', Instr.loadAt, Instr.sureAddr, Sem.run_bind, Sem.run_pure, Result.andThen_ok, hL.ld tM AW 0 (by omega) (fun j _ => by rw [Nat.zero_add])] <;> rfl) rfl
    · have h1 : ρ (.tmp 12) = .func (.func F) #[] #[] := by rw [← eb]; exact hS 12 (by kernel_rfl)
      have h2 : ρ (.tmp 13) = .agg L.toArray := hS 13 (by kernel_rfl)
      exact Stp.call (f := F) (args := #[.agg L.toArray]) (by simp [execOp, h1, h2, E, go_sem] <;> rfl) (C2 W (Bel.call hB hW)) (fun _ => rfl)
  intro x W hW hV'
  have h6 : x 6 = .string Y := hV' 6 (by omega)
  replace hB := Bel.call hB hW
  replace A1 : Arr _ _ 16 _ := A1.to' (n := 15) hW
  have q0 := A1.cv 0 (by omega) (.int .i64 k) F0
  clear hV' hW A1 C1 C2
  simp only [puts, List.take_succ_cons, List.take_zero, List.drop_succ_cons, List.drop_zero, Act.put, List.setIfInBounds_toArray, List.set_cons_succ, List.set_cons_zero, h6]
  go_wp2_with fail
  refine (N1 _).mono ?_
  rintro e w2 ⟨rfl, hb2⟩
  replace hB := Bel.call hB hb2
  clear hb2 q0
  go_wp2_with fail
  refine (N3 _).mono ?_
  rintro e w3 ⟨rfl, hb3⟩
  replace hB := Bel.call hB hb3
  clear hb3
  go_wp2_with fail
  exact bodyPost_ret (v := .tuple #[.string X, .int .i64 0]) (by rw [← HX.out]; simp [results, Tryz.results8, go_sem]) rfl ⟨rfl, hB⟩
end Go.Proofs.YtjdpeedghpblgaaGreatDoor
/- Package hand: what Read puts off: the one that catches. -/
set_option linter.all false
set_option maxRecDepth 100000
namespace Go.Proofs.YtjdpeedghpblgaaGreatDoor
open Go.RowKit Go.Sort Go.Shelf
set_option maxHeartbeats 1000000 in
theorem catch_idle (b2 b3 b4 : Nat) (w : World) :
    CallsD Tryz.prog 26 #[.pointer (some ⟨b2, 0, none⟩), .pointer (some ⟨b3, 0, none⟩), .pointer (some ⟨b4, 0, none⟩)] .returning w fun e u' w' => e = .returned (.tuple #[]) ∧ u' = .returning ∧ w' = w := by
  refine callsD_of_wpS Tryz.func26 rfl fun c₀ cs hu => ?_
  apply wpS_seq
  apply wpS_region
  simp [wpOpsS, go_sem, recoverD, hu, Tryz.ntmps26, Exit.thenS]
  apply wpS_seq
  apply wpS_region
  simp [wpOpsS, go_sem, Exit.thenS]
  refine wpS_cond (t := false) (by simp [Act.eval, Array.replicate]) ?_
  simp only [Bool.false_eq_true, if_false]
  refine wpS_of_wp (wp_skip ?_)
  cases c₀
  simp_all [bodyPostS, results, Tryz.results26]
/-- But for three blocks nothing has turned. -/
structure Up3 (a b c : Nat) (w w' : World) : Prop where
  os : w'.os = w.os
  tape : w'.tape = w.tape
  output : w'.output = w.output
  size : w.heap.size ≤ w'.heap.size
  block : ∀ k, k < w.heap.size → k ≠ a → k ≠ b → k ≠ c → w'.heap[k]? = w.heap[k]?
theorem Up3.refl (a b c : Nat) (w : World) : Up3 a b c w w := ⟨rfl, rfl, rfl, Nat.le_refl _, fun _ _ _ _ _ => rfl⟩
theorem Up3.trans {a b c : Nat} {x y z : World} (h : Up3 a b c x y) (k : Up3 a b c y z) : Up3 a b c x z :=
  ⟨k.os.trans h.os, k.tape.trans h.tape, k.output.trans h.output, Nat.le_trans h.size k.size, fun i hi h1 h2 h3 => (k.block i (Nat.lt_of_lt_of_le hi h.size) h1 h2 h3).trans (h.block i hi h1 h2 h3)⟩
theorem Upto.up3 {p a b c : Nat} {w w' : World} (h : Upto p w w') (hp : p = a ∨ p = b ∨ p = c) : Up3 a b c w w' :=
  ⟨h.os, h.tape, h.output, h.size, fun k hk h1 h2 h3 => h.block k hk (by rcases hp with rfl | rfl | rfl <;> assumption)⟩
theorem Upto.arr {p b n : Nat} {w w' : World} {F : Nat → Value} (h : Upto p w w') (A : Arr w b (n + 1) F) (hp : b ≠ p) : Arr w' b (n + 1) F := fun j hj =>
  ⟨(h.cell (a := ⟨b, j, none⟩) A.lt hp).trans (A j hj).1, (h.frozen (a := ⟨b, j, none⟩) A.lt hp).trans (A j hj).2⟩
/-- A variable of one cell. -/
abbrev V1 (w : World) (b : Nat) (v : Value) : Prop := Arr w b 1 (fun _ => v)
theorem V1.set {w : World} {b : Nat} {v : Value} (A : V1 w b v) (u : Value) : V1 (w.setCell ⟨b, 0, none⟩ u) b u := (Arr.set A 0 (by omega) u).congr (fun j hj => by rw [if_pos (by omega)])
def caV (b2 b3 b4 : Nat) (E : Int) (_ : Array Bool) : Nat → Value → World → Prop
  | 0, v, _ => v = .agg (kL 0).toArray
  | 1, v, _ => v = .iface 31 (.int .i64 E)
  | 2, v, _ => v = .int .i64 E
  | 3, _, W => Arr W b2 16 (noM.c nC)
  | 4, _, W => V1 W b3 (.string nS)
  | 5, _, W => V1 W b4 (.int .i64 E)
  | _, _, _ => False
def caF (b2 b3 b4 : Nat) (_ : Array Bool) (W : World) : Prop := (∃ F, Arr W b2 16 F) ∧ (∃ v, V1 W b3 v) ∧ (∃ v, V1 W b4 v)
theorem ca_other {b2 b3 b4 i p : Nat} {E : Int} {ls : Array Bool} {W W' : World} (hU : Upto p W W') (h23 : b2 ≠ b3) (h24 : b2 ≠ b4) (h34 : b3 ≠ b4) (hp : (i = 3 ∧ p = b2) ∨ (i = 4 ∧ p = b3) ∨ (i = 5 ∧ p = b4)) (j : Nat) (v : Value) (hne : j ≠ i) (q : caV b2 b3 b4 E ls j v W) : caV b2 b3 b4 E (ls.setIfInBounds i true) j v W' := by
  match j, q with
  | 0, q | 1, q | 2, q => exact q
  | 3, q => exact hU.arr (n := 15) q (by omega)
  | 4, q => exact hU.arr (n := 0) q (by omega)
  | 5, q => exact hU.arr (n := 0) q (by omega)
theorem ca_f {b2 b3 b4 i p : Nat} {ls : Array Bool} {W W' : World} (hU : Upto p W W') (h : caF b2 b3 b4 ls W) (h2 : b2 = p → ∃ F, Arr W' b2 16 F) (h3 : b3 = p → ∃ v, V1 W' b3 v) (h4 : b4 = p → ∃ v, V1 W' b4 v) : caF b2 b3 b4 (ls.setIfInBounds i true) W' := by
  obtain ⟨⟨F, A⟩, ⟨u, B⟩, ⟨v, C⟩⟩ := h
  refine ⟨?_, ?_, ?_⟩
  · by_cases e : b2 = p
    · exact h2 e
    · exact ⟨F, hU.arr (n := 15) A e⟩
  · by_cases e : b3 = p
    · exact h3 e
    · exact ⟨u, hU.arr (n := 0) B e⟩
  · by_cases e : b4 = p
    · exact h4 e
    · exact ⟨v, hU.arr (n := 0) C e⟩
set_option maxHeartbeats 4000000 in
theorem catch_p (b2 b3 b4 : Nat) (E : Int) (w : World) (h23 : b2 ≠ b3) (h24 : b2 ≠ b4) (h34 : b3 ≠ b4) (H : caF b2 b3 b4 #[] w) :
    CallsD Tryz.prog 26 #[.pointer (some ⟨b2, 0, none⟩), .pointer (some ⟨b3, 0, none⟩), .pointer (some ⟨b4, 0, none⟩)] (.panicking (pk E)) w fun e u' w' => e = .returned (.tuple #[]) ∧ u' = .panicking [{ v := .iface 31 (.int .i64 E), recovered := true }] ∧ Up3 b2 b3 b4 w w' ∧ Arr w' b2 16 (noM.c nC) ∧ V1 w' b3 (.string nS) ∧ V1 w' b4 (.int .i64 E) := by
  refine callsD_of_wpS Tryz.func26 rfl fun c₀ cs hu => ?_
  apply wpS_seq
  apply wpS_region
  simp [wpOpsS, go_sem, recoverD, hu, Tryz.ntmps26, Exit.thenS]
  apply wpS_seq
  apply wpS_region
  simp [wpOpsS, go_sem, Exit.thenS]
  refine wpS_cond (t := true) (by simp [Act.eval, Array.replicate]) ?_
  simp only [if_true]
  refine wpS_of_wp ?_
  refine wp_region_st (Up3 b2 b3 b4) (caV b2 b3 b4 E) (caF b2 b3 b4) rfl (by kernel_rfl) (by kernel_rfl) (fun d => ⟨rfl, rfl, rfl, Nat.le_refl _, fun _ _ _ _ _ => rfl⟩) (fun d => H) (fun _ _ _ h1 h2 => h1.trans h2) ?_ ?_
  · intro ls i o ρ W hi ho hz9 hun hdep hA hFf hW hP hS
    have ci : i = 0 ∨ i = 1 ∨ i = 2 ∨ i = 3 ∨ i = 4 ∨ i = 5 := by simp only [List.length_cons, List.length_nil] at hi; omega
    have hc := hP.c
    have rf : ∀ {ll : List Oper} {i : Nat}, (Up3 b2 b3 b4 W W ∧ caF b2 b3 b4 (ls.setIfInBounds i true) W ∧ ∀ j v, j < 6 → j ≠ i → ls.getD j true = true → (∀ t, dAt ll j = some t → v = ρ (.tmp t)) → caV b2 b3 b4 E ls j v W → caV b2 b3 b4 E (ls.setIfInBounds i true) j v W) := ⟨Up3.refl _ _ _ _, hFf, fun j v _ _ _ _ q => (by match j, q with | 0, q | 1, q | 2, q | 3, q | 4, q | 5, q => exact q)⟩
    rcases ci with rfl | rfl | rfl | rfl | rfl | rfl <;> cases ho
    · exact .of (StG.val (by simp [execOp, go_sem] <;> rfl) rf rfl)
    · have h' : ρ (.tmp 3) = .iface 31 (.int .i64 E) := hS 3 (by kernel_rfl)
      exact .of (StG.val (by simp [execOp, h', go_sem] <;> rfl) rf rfl)
    · have h' : ρ (.tmp 8) = .iface 31 (.int .i64 E) := hS 8 (by kernel_rfl)
      exact .of (StG.val (by simp [execOp, h', go_sem] <;> rfl) rf rfl)
    · have h1 : ρ (.tmp 0) = .pointer (some ⟨b2, 0, none⟩) := hS 0 (by kernel_rfl)
      have h2 : ρ (.tmp 7) = .agg (kL 0).toArray := hS 7 (by kernel_rfl)
      obtain ⟨F, A⟩ := hFf.1
      have hU := Upto.sets b2 W (kL 0) 0
      exact .of (StG.put (w' := W.setCells b2 0 (kL 0)) (by simp only [execOp, h1, h2, Sem.run_bind, run_store16 kL0 A, Result.andThen_ok, Sem.run_pure] <;> rfl) ⟨hU.up3 (.inl rfl), ca_f hU hFf (fun _ => ⟨_, kL0.set A⟩) (fun e => absurd e.symm h23) (fun e => absurd e.symm h24), fun j v _ hne _ _ q => ca_other hU h23 h24 h34 (.inl ⟨rfl, rfl⟩) j v hne q⟩ (kL0.set A))
    · have h1 : ρ (.tmp 1) = .pointer (some ⟨b3, 0, none⟩) := hS 1 (by kernel_rfl)
      obtain ⟨u, A⟩ := hFf.2.1
      have c0 := A.c 0 (by omega)
      have f0 := A.z 0 (by omega)
      have hU := Upto.put b3 0 W (.string nS)
      exact .of (StG.put (w' := W.setCell ⟨b3, 0, none⟩ (.string nS)) (by simp [execOp, h1, hc, c0, f0, go_sem] <;> rfl) ⟨hU.up3 (.inr (.inl rfl)), ca_f hU hFf (fun e => absurd e h23) (fun _ => ⟨_, A.set _⟩) (fun e => absurd e.symm h34), fun j v _ hne _ _ q => ca_other hU h23 h24 h34 (.inr (.inl ⟨rfl, rfl⟩)) j v hne q⟩ (V1.set A _))
    · have h1 : ρ (.tmp 2) = .pointer (some ⟨b4, 0, none⟩) := hS 2 (by kernel_rfl)
      have h2 : ρ (.tmp 9) = .int .i64 E := hS 9 (by kernel_rfl)
      obtain ⟨u, A⟩ := hFf.2.2
      have c0 := A.c 0 (by omega)
      have f0 := A.z 0 (by omega)
      have hU := Upto.put b4 0 W (.int .i64 E)
      exact .of (StG.put (w' := W.setCell ⟨b4, 0, none⟩ (.int .i64 E)) (by simp [execOp, h1, h2, c0, f0, go_sem] <;> rfl) ⟨hU.up3 (.inr (.inr rfl)), ca_f hU hFf (fun e => absurd e h24) (fun e => absurd e h34) (fun _ => ⟨_, A.set _⟩), fun j v _ hne _ _ q => ca_other hU h23 h24 h34 (.inr (.inr ⟨rfl, rfl⟩)) j v hne q⟩ (V1.set A _))
  · intro ls x W hz hall hFf hW hv
    have h3 : Arr W b2 16 (noM.c nC) := hv 3 (by decide)
    have h4 : V1 W b3 (.string nS) := hv 4 (by decide)
    have h5 : V1 W b4 (.int .i64 E) := hv 5 (by decide)
    simp only [puts, Act.put, List.setIfInBounds_toArray, List.set_cons_succ, List.set_cons_zero]
    simp [bodyPostS, results, Tryz.results26]
    exact ⟨hW, h3, h4, h5⟩
end Go.Proofs.YtjdpeedghpblgaaGreatDoor
