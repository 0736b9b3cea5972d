/- Package hand: what is read of a text of which nothing may be missing, and nothing left. -/
import Derived.Shelf.Abstract
import Derived.Test.YtjdpeedghpblgaaGreatDoorJ4
import Derived.Test.YtjdpeedghpblgaaGreatDoorJ5
set_option linter.all false
set_option maxRecDepth 100000
namespace Go.Proofs.YtjdpeedghpblgaaGreatDoor
open Go.RowKit Go.Sort Go.Shelf
def whF {α : Type} (g : ByteArray → Option (α × ByteArray)) (s : ByteArray) : Option α := match g s with
  | some (a, r) => if r.size = 0 then some a else none
  | none => none
def WhR {α : Type} (V : World → Value → α → Prop) : Option α → Ending → World → Prop
  | some a, x, w' => ∃ v, x = .returned v ∧ V w' v a
  | none, x, _ => x = .panicked (pk 10)
/-- A reading function's contract. -/
def RdC {α : Type} (F : FuncId) (V : Nat → World → Value → α → Prop) (g : ByteArray → Option (α × ByteArray)) : Prop := ∀ (p : Nat) (s : ByteArray) (w : World), (s.size : Int) ≤ 20000 → Rdr w p s 10 → Calls Tryz.prog F #[rp p] w fun x w' => Upto p w w' ∧ RdR (V w.heap.size) p (g s) x w'
abbrev Vs : Nat → World → Value → ByteArray → Prop := fun _ _ v a => v = .string a
/-- A row that begins a block from b on. -/
def Fsh (b : Nat) (v : Value) : Prop := ∀ a n c, v = .slice (some a) n c → ∃ g, a = ⟨g, 0, none⟩ ∧ b ≤ g
theorem Fsh.nil (b : Nat) : Fsh b (.slice none 0 0) := fun a n c h => by cases h
theorem Fsh.less {b d : Nat} {v : Value} (h : Fsh b v) (hd : d ≤ b) : Fsh d v := fun a n c e => by obtain ⟨g, h1, h2⟩ := h a n c e; exact ⟨g, h1, by omega⟩
theorem Txs.up {w w' : World} {v : Value} {l : List ByteArray} {p b : Nat} (h : Txs w v l) (f : Fsh b v) (hp : p < b) (hU : Upto p w w') : Txs w' v l := by
  rcases h with h | ⟨a, cap, h1, h0, h2⟩
  · exact .inl h
  · refine .inr ⟨a, cap, h1, h0, fun i s hi => ?_⟩
    obtain ⟨g, rfl, hg⟩ := f a _ _ h1
    have q := h2 i s hi
    rw [← q]
    refine hU.cell (block_lt_of_cell q) ?_
    have : ((⟨g, 0, none⟩ : Addr).add i).block = g := by simp only [Addr.add]; split <;> rfl
    omega
abbrev Vl : Nat → World → Value → List ByteArray → Prop := fun n w v l => Txs w v l ∧ Fsh n v
def Vm : Nat → World → Value → Mg → Prop := fun n w v m => ∃ u, v = m.v u ∧ Txs w u m.cs ∧ Fsh n u
theorem Rdr.new (s : ByteArray) (e : Int) (w : World) : Rdr (w.alloc (.cells #[.string s, .int .i64 e] 64)) w.heap.size s e := by
  refine ⟨?_, ?_, ?_⟩ <;> simp [go_sem]
theorem wh_iff {α : Type} (g : ByteArray → Option (α × ByteArray)) (s : ByteArray) (a : α) : whF g s = some a ↔ g s = some (a, nS) := by
  unfold whF
  cases h : g s with
  | none => simp
  | some x =>
    obtain ⟨b, r⟩ := x
    simp only
    split
    · rename_i c
      rw [nS_size c]; simp
    · rename_i c
      simp only [reduceCtorEq, Option.some.injEq, Prod.mk.injEq, false_iff, not_and]
      intro _ e
      exact c (by rw [e]; rfl)
theorem no_mt {r : ByteArray} (c : ¬ r.size = 0) : r.toList.isEmpty = false := by
  rw [ByteArray.toList_eq, List.isEmpty_eq_false_iff]
  intro q
  exact c (by rw [← len_list, q]; rfl)
theorem Txs.one {w : World} {v : Value} {l : List ByteArray} (h : Txs w v l) : v.oneCell' = true := by
  rcases h with ⟨rfl, _⟩ | ⟨a, cap, rfl, _⟩ <;> rfl
theorem Upto.sets (p : Nat) (w : World) (L : List Value) (o : Nat) : Upto p w (w.setCells p o L) := by
  induction L generalizing w o with
  | nil => exact Upto.refl _ _
  | cons v r ih => exact (Upto.put p o w v).trans (ih _ _)
set_option maxHeartbeats 1000000 in
theorem wholeS {g : ByteArray → Option (ByteArray × ByteArray)} (F : FuncId) (EF : Enters Tryz.prog F) (C : RdC F Vs g) (s : ByteArray) (hz : (s.size : Int) ≤ 20000) (w : World) :
    Calls Tryz.prog 77 #[.string s, .func (.func F) #[] #[]] w fun x w' => Below w.heap.size w w' ∧ WhR (Vs w.heap.size) (whF g s) x w' := by
  have K := C w.heap.size s _ hz (Rdr.new s 10 w)
  have E := fun args W => EF args W
  have hB := Below.alloc (Below.refl w.heap.size w) (Nat.le_refl _) (.cells #[.string s, .int .i64 10] 64)
  have z0 : w.heap.size < (w.alloc (.cells #[.string s, .int .i64 10] 64)).heap.size := by simp
  generalize hw1 : w.alloc (.cells #[.string s, .int .i64 10] 64) = w1 at *
  go_enter Tryz.func77, Tryz.ntmps77
  go_wp2_with fail
  refine K.mono ?_
  rintro x w2 ⟨hU, hx⟩
  have hB2 := hB.trans (hU.below (Nat.le_refl _) (Nat.le_of_lt z0))
  cases hg : g s with
  | none =>
    rw [hg] at hx
    cases hx
    have e : whF g s = none := by unfold whF; rw [hg]
    go_wp2_with fail
    exact ⟨rfl, hB2, by rw [e]; rfl⟩
  | some y =>
    obtain ⟨b, r⟩ := y
    rw [hg] at hx
    obtain ⟨v, rfl, hv, hR⟩ := hx
    obtain ⟨h1, h2, h3⟩ := hR
    have HV : Hid _ := hv
    clear hv
    by_cases c : r.size = 0
    · have e : whF g s = some b := by unfold whF; rw [hg]; simp only; rw [if_pos c]
      rw [nS_size c] at h1
      clear hg K C EF E hw1
      go_wp2_with fail
      go_ret
      exact ⟨hB2, by rw [e]; exact ⟨_, rfl, HV.out⟩⟩
    · have e : whF g s = none := by unfold whF; rw [hg]; simp only; rw [if_neg c]
      have d := no_mt c
      clear hg K C EF E hw1
      go_wp2_with fail
      exact ⟨rfl, hB2, by rw [e]; rfl⟩
set_option maxHeartbeats 1000000 in
theorem wholeL {g : ByteArray → Option ((List ByteArray) × ByteArray)} (F : FuncId) (EF : Enters Tryz.prog F) (C : RdC F Vl g) (s : ByteArray) (hz : (s.size : Int) ≤ 20000) (w : World) :
    Calls Tryz.prog 81 #[.string s, .func (.func F) #[] #[]] w fun x w' => Below w.heap.size w w' ∧ WhR (Vl w.heap.size) (whF g s) x w' := by
  have K := C w.heap.size s _ hz (Rdr.new s 10 w)
  have E := fun args W => EF args W
  have hB := Below.alloc (Below.refl w.heap.size w) (Nat.le_refl _) (.cells #[.string s, .int .i64 10] 64)
  have z0 : w.heap.size < (w.alloc (.cells #[.string s, .int .i64 10] 64)).heap.size := by simp
  generalize hw1 : w.alloc (.cells #[.string s, .int .i64 10] 64) = w1 at *
  go_enter Tryz.func81, Tryz.ntmps81
  go_wp2_with fail
  refine K.mono ?_
  rintro x w2 ⟨hU, hx⟩
  have hB2 := hB.trans (hU.below (Nat.le_refl _) (Nat.le_of_lt z0))
  cases hg : g s with
  | none =>
    rw [hg] at hx
    cases hx
    have e : whF g s = none := by unfold whF; rw [hg]
    go_wp2_with fail
    exact ⟨rfl, hB2, by rw [e]; rfl⟩
  | some y =>
    obtain ⟨b, r⟩ := y
    rw [hg] at hx
    obtain ⟨v, rfl, hv, hR⟩ := hx
    obtain ⟨h1, h2, h3⟩ := hR
    have HV : Hid _ := hv
    clear hv
    by_cases c : r.size = 0
    · have e : whF g s = some b := by unfold whF; rw [hg]; simp only; rw [if_pos c]
      rw [nS_size c] at h1
      clear hg K C EF E hw1
      go_wp2_with fail
      go_ret
      exact ⟨hB2, by rw [e]; exact ⟨_, rfl, ⟨HV.out.1, HV.out.2.less (Nat.le_of_lt z0)⟩⟩⟩
    · have e : whF g s = none := by unfold whF; rw [hg]; simp only; rw [if_neg c]
      have d := no_mt c
      clear hg K C EF E hw1
      go_wp2_with fail
      exact ⟨rfl, hB2, by rw [e]; rfl⟩
set_option maxHeartbeats 2000000 in
theorem wholeM {g : ByteArray → Option (Mg × ByteArray)} (F : FuncId) (EF : Enters Tryz.prog F) (C : RdC F Vm g) (s : ByteArray) (hz : (s.size : Int) ≤ 20000) (w : World) :
    Calls Tryz.prog 55 #[.string s, .func (.func F) #[] #[]] w fun x w' => Below w.heap.size w w' ∧ WhR (Vm w.heap.size) (whF g s) x w' := by
  have A0 := newZ w w.heap.size rfl
  have hB := Below.alloc (Below.refl w.heap.size w) (Nat.le_refl _) (.cells z16 29)
  have zz : (w.alloc (.cells z16 29)).heap.size = w.heap.size + 1 := by simp
  have K := C (w.heap.size + 1) s ((w.alloc (.cells z16 29)).alloc (.cells #[.string s, .int .i64 10] 64)) hz (by have := Rdr.new s 10 (w.alloc (.cells z16 29)); rwa [zz] at this)
  have E := fun args W => EF args W
  replace A0 := Arr.al' (n := 15) A0 (.cells #[.string s, .int .i64 10] 64)
  replace hB := Bel.al hB (.cells #[.string s, .int .i64 10] 64)
  have z0 : ((w.alloc (.cells z16 29)).alloc (.cells #[.string s, .int .i64 10] 64)).heap.size = w.heap.size + 2 := by simp
  go_enter Tryz.func55, Tryz.ntmps55
  go_wp2_with fail
  simp only [z0] at K
  refine K.mono ?_
  generalize (w.alloc (.cells z16 29)).alloc (.cells #[.string s, .int .i64 10] 64) = w1 at *
  rintro x w2 ⟨hU, hx⟩
  have hB2 := hB.trans (hU.below (n := w.heap.size) (by omega) (by omega))
  replace A0 : Arr w2 w.heap.size 16 _ := fun j hj => ⟨by rw [hU.cell (by show w.heap.size < _; omega) (by show w.heap.size ≠ _; omega)]; exact (A0 j hj).1, by rw [hU.frozen (by show w.heap.size < _; omega) (by show w.heap.size ≠ _; omega)]; exact (A0 j hj).2⟩
  have s2 := hU.size
  cases hg : g s with
  | none =>
    rw [hg] at hx
    cases hx
    have e : whF g s = none := by unfold whF; rw [hg]
    go_wp2_with fail
    exact ⟨rfl, hB2, by rw [e]; rfl⟩
  | some y =>
    obtain ⟨b, r⟩ := y
    rw [hg] at hx
    obtain ⟨v, rfl, hv, hR⟩ := hx
    obtain ⟨u, rfl, hT, hF⟩ := hv
    have hL := b.cells u hT.one
    have HW : Hid (b.v u = .agg (b.l u).toArray) := Mg.v_l b u
    have HT : Hid (Txs w2 u b.cs ∧ Fsh (w.heap.size + 2) u) := ⟨hT, hF⟩
    clear hT hF
    rw [Mg.v_l]
    generalize b.l u = L at *
    generalize b.c u = Fc at *
    have s3 : w.heap.size + 2 ≤ w2.heap.size := by omega
    have A6 := newZ w2 w2.heap.size rfl
    have hB3 := below_setCells (Below.alloc (Below.refl w2.heap.size w2) (Nat.le_refl _) (.cells z16 29)) (b := w2.heap.size) (Nat.le_refl _) L 0
    have B6 := hL.set A6
    have R3 := hR.to hB3
    have A3 := Arr.to' (n := 15) A0 hB3
    obtain ⟨h1, h2, h3⟩ := R3
    have hB4 := hB2.trans (hB3.mono (B' := w.heap.size) (by omega))
    have HU : Hid (Below w2.heap.size w2 ((w2.alloc (.cells z16 29)).setCells w2.heap.size 0 L)) := hB3
    have HG : Hid (g s = some (b, r)) := hg
    clear hg K C EF E hR A0 hB3
    by_cases c : r.size = 0
    · have e : whF g s = some b := by unfold whF; rw [HG.out]; simp only; rw [if_pos c]
      rw [nS_size c] at h1
      go_wp2_with (first | (refine hL.wst tM A6 (by rfl) (.tmp 6) (.tmp 12) (by rfl) (by rfl) (by rfl) ?_) | (refine hL.wld tM B6 0 (by omega) (fun j _ => by rw [Nat.zero_add]) (by rfl) (.tmp 6) (by rfl) (by rfl) ?_) | (refine hL.wst tM A3 (by rfl) (.tmp 4) (.tmp 19) (by rfl) (by rfl) (by rfl) ?_))
      refine bodyPost_ret (results_cell1 rfl _ rfl (hL.ld tM (hL.set A3) 0 (by omega) (fun j _ => by rw [Nat.zero_add]))) rfl ⟨below_setCells hB4 (Nat.le_refl _) L 0, ?_⟩
      rw [e]
      refine ⟨_, rfl, u, HW.out.symm, ?_, HT.out.2.less (by omega)⟩
      exact (HT.out.1.to HU.out).up HT.out.2 (by omega) (Upto.sets _ _ _ _)
    · have e : whF g s = none := by unfold whF; rw [HG.out]; simp only; rw [if_neg c]
      have d := no_mt c
      go_wp2_with (first | (refine hL.wst tM A6 (by rfl) (.tmp 6) (.tmp 12) (by rfl) (by rfl) (by rfl) ?_))
      exact ⟨rfl, hB4, by rw [e]; rfl⟩
end Go.Proofs.YtjdpeedghpblgaaGreatDoor
