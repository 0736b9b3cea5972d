/- Package hand: a message of any kind is read. -/
import Derived.Test.YtjdpeedghpblgaaGreatDoorJ28
import Derived.Test.YtjdpeedghpblgaaGreatDoorJ24
import Derived.Test.YtjdpeedghpblgaaGreatDoorJ31
set_option linter.all false
set_option maxRecDepth 100000
namespace Go.Proofs.YtjdpeedghpblgaaGreatDoor
open Go.RowKit Go.Sort Go.Shelf
/-- A message with its kind. -/
def kM (m : Mg) (k : Int) : Mg := ⟨k, m.rn, m.ss, m.sh, m.nm, m.al, m.cs, m.x, m.y, m.mc⟩
/-- What reading a body of a kind that is known ends in, r being what stands behind the kind. -/
def Bod (g : ByteArray → Option (Mg × ByteArray)) (k : Int) (r : ByteArray) (p N : Nat) (x : Ending) (w' : World) : Prop :=
  (16384 < lnR r ∧ x = .panicked (pk 12)) ∨ (lnR r ≤ 16384 ∧ (r.size : Int) < 3 + lnR r ∧ x = .panicked (pk 11)) ∨
  (lnR r ≤ 16384 ∧ 3 + lnR r ≤ (r.size : Int) ∧ (whF g (r.extract 3 (3 + (lnR r).toNat)) = none ∨ ∃ m, whF g (r.extract 3 (3 + (lnR r).toNat)) = some m ∧ ftB (kM m k) = false) ∧ x = .panicked (pk 10)) ∨
  (lnR r ≤ 16384 ∧ 3 + lnR r ≤ (r.size : Int) ∧ ∃ m u, whF g (r.extract 3 (3 + (lnR r).toNat)) = some m ∧ ftB (kM m k) = true ∧ x = .returned ((kM m k).v u) ∧ Txs w' u m.cs ∧ Fsh N u ∧ Rdr w' p (r.extract (3 + (lnR r).toNat) r.size) 11)
theorem Bod.a {g : ByteArray → Option (Mg × ByteArray)} {k : Int} {r : ByteArray} {p N : Nat} {w' : World} (h : 16384 < lnR r) : Bod g k r p N (.panicked (pk 12)) w' := .inl ⟨h, rfl⟩
theorem Bod.b {g : ByteArray → Option (Mg × ByteArray)} {k : Int} {r : ByteArray} {p N : Nat} {w' : World} (h : lnR r ≤ 16384) (h2 : (r.size : Int) < 3 + lnR r) : Bod g k r p N (.panicked (pk 11)) w' := .inr (.inl ⟨h, h2, rfl⟩)
theorem Bod.c {g : ByteArray → Option (Mg × ByteArray)} {k : Int} {r : ByteArray} {p N : Nat} {w' : World} (h : lnR r ≤ 16384) (h2 : 3 + lnR r ≤ (r.size : Int)) (h3 : whF g (r.extract 3 (3 + (lnR r).toNat)) = none ∨ ∃ m, whF g (r.extract 3 (3 + (lnR r).toNat)) = some m ∧ ftB (kM m k) = false) : Bod g k r p N (.panicked (pk 10)) w' := .inr (.inr (.inl ⟨h, h2, h3, rfl⟩))
def rmV (p N b4 : Nat) (r : ByteArray) (g : ByteArray → Option (Mg × ByteArray)) (F : FuncId) (ls : Array Bool) : Nat → Value → World → Prop
  | 0, v, _ => v = rp p
  | 1, v, _ => v = rp p
  | 2, v, _ => v = .int .i64 (lnR r) ∧ lnR r ≤ 16384 ∧ 3 ≤ r.size
  | 3, v, _ => ls.getD 2 false = true ∧ v = .string (r.extract 3 (3 + (lnR r).toNat)) ∧ lnR r ≤ 16384 ∧ 3 + lnR r ≤ (r.size : Int)
  | 4, v, _ => v = .pointer (some ⟨b4, 2, none⟩)
  | 5, v, _ => v = .func (.func F) #[] #[]
  | 6, v, W => ls.getD 2 false = true ∧ ls.getD 3 false = true ∧ (ls.getD 8 false = true ∨ ∃ m u, whF g (r.extract 3 (3 + (lnR r).toNat)) = some m ∧ v = m.v u ∧ Txs W u m.cs ∧ Fsh N u)
  | 7, v, W => ∃ b6, v = .pointer (some ⟨b6, 0, none⟩) ∧ N ≤ b6 ∧ ((ls.getD 8 false = false ∧ Arr W b6 16 (noM.c nC)) ∨ (ls.getD 8 false = true ∧ ∃ m u, whF g (r.extract 3 (3 + (lnR r).toNat)) = some m ∧ Arr W b6 16 (m.c u) ∧ Txs W u m.cs ∧ Fsh N u))
  | 8, _, _ => ls.getD 7 false = true
  | _, _, _ => False
def rmF (p : Nat) (r : ByteArray) (ls : Array Bool) (W : World) : Prop := Rdr W p (if ls.getD 3 false = true then r.extract (3 + (lnR r).toNat) r.size else if ls.getD 2 false = true then r.extract 3 r.size else r) 11
theorem rmF.st {p : Nat} {r : ByteArray} {ls : Array Bool} {i : Nat} (h2 : i ≠ 2) (h3 : i ≠ 3) {W W' : World} (h : rmF p r ls W) (hb : Below W.heap.size W W') : rmF p r (ls.setIfInBounds i true) W' := by
  unfold rmF at *
  rw [on_set (fun e => h3 e.symm), on_set (fun e => h2 e.symm)]
  exact h.to hb
theorem Rdr.up {w w' : World} {p q : Nat} {s : ByteArray} {e : Int} (h : Rdr w p s e) (hU : Upto q w w') (hq : p ≠ q) : Rdr w' p s e := h.gr hU.gr (fun e => hq (Option.some.inj e))
theorem rmV.st {p N b4 : Nat} {r : ByteArray} {g : ByteArray → Option (Mg × ByteArray)} {F : FuncId} {ls : Array Bool} {i : Nat} (h2 : i ≠ 2) (h3 : i ≠ 3) (h8 : i ≠ 8) (j : Nat) (v : Value) {W W' : World} (h : rmV p N b4 r g F ls j v W) (hb : Below W.heap.size W W') : rmV p N b4 r g F (ls.setIfInBounds i true) j v W' := by
  have e8 := on_set (ls := ls) (i := i) (j := 8) (fun e => h8 e.symm)
  match j, h with
  | 0, h | 1, h | 2, h | 4, h | 5, h => exact h
  | 3, h => exact ⟨fl_keep h.1, h.2⟩
  | 6, h =>
    refine ⟨fl_keep h.1, fl_keep h.2.1, ?_⟩
    rw [e8]
    rcases h.2.2 with q | ⟨m, u, q1, q2, q3, q4⟩
    · exact .inl q
    · exact .inr ⟨m, u, q1, q2, q3.to hb, q4⟩
  | 7, h =>
    obtain ⟨b6, q1, q2, q3⟩ := h
    refine ⟨b6, q1, q2, ?_⟩
    rw [e8]
    rcases q3 with ⟨q4, q5⟩ | ⟨q4, m, u, q5, q6, q7, q8⟩
    · exact .inl ⟨q4, Arr.to' (n := 15) q5 hb⟩
    · exact .inr ⟨q4, m, u, q5, Arr.to' (n := 15) q6 hb, q7.to hb, q8⟩
  | 8, h => exact fl_keep h
/-- Beside the reader's own block nothing is turned by the two that take bytes off. -/
theorem rmV.sr {p N b4 : Nat} {r : ByteArray} {g : ByteArray → Option (Mg × ByteArray)} {F : FuncId} {ls : Array Bool} {i : Nat} (hi : i = 2 ∨ i = 3) (hp : p < N) (hz : ls.size = 9) (hun : ls.getD i true = false) (j : Nat) (v : Value) {W W' : World} (hne : j ≠ i) (h : rmV p N b4 r g F ls j v W) (hb : Upto p W W') : rmV p N b4 r g F (ls.setIfInBounds i true) j v W' := by
  have e8 := on_set (ls := ls) (i := i) (j := 8) (by omega)
  have no : ls.getD i false = true → False := fun q => by rw [fl_tt q] at hun; cases hun
  match j, h with
  | 0, h | 1, h | 2, h | 4, h | 5, h => exact h
  | 3, h =>
    rcases hi with rfl | rfl
    · exact (no h.1).elim
    · exact absurd rfl hne
  | 6, h =>
    rcases hi with rfl | rfl
    · exact (no h.1).elim
    · exact (no h.2.1).elim
  | 7, h =>
    obtain ⟨b6, q1, q2, q3⟩ := h
    refine ⟨b6, q1, q2, ?_⟩
    rw [e8]
    have ne : b6 ≠ p := by omega
    have tr : ∀ {F : Nat → Value}, Arr W b6 16 F → Arr W' b6 16 F := fun A => A.grown hb.gr (Arr.lt (n := 15) A) (fun e => ne (Option.some.inj e))
    rcases q3 with ⟨q4, q5⟩ | ⟨q4, m, u, q5, q6, q7, q8⟩
    · exact .inl ⟨q4, tr q5⟩
    · exact .inr ⟨q4, m, u, q5, tr q6, q7.up q8 hp hb, q8⟩
  | 8, h => exact fl_keep h
/-- Below a number of blocks nothing but one has turned. -/
structure Upn (N p : Nat) (w w' : World) : Prop where
  os : w'.os = w.os
  tape : w'.tape = w.tape
  output : w'.output = w.output
  size : w.heap.size ≤ w'.heap.size
  block : ∀ k, k < N → k ≠ p → w'.heap[k]? = w.heap[k]?
theorem Upn.refl (N p : Nat) (w : World) : Upn N p w w := ⟨rfl, rfl, rfl, Nat.le_refl _, fun _ _ _ => rfl⟩
theorem Upn.trans {N p : Nat} {a b c : World} (h : Upn N p a b) (k : Upn N p b c) : Upn N p a c :=
  ⟨k.os.trans h.os, k.tape.trans h.tape, k.output.trans h.output, Nat.le_trans h.size k.size, fun i hi hp => (k.block i hi hp).trans (h.block i hi hp)⟩
theorem Upto.upn {p N : Nat} {w w' : World} (h : Upto p w w') (hN : N ≤ w.heap.size) : Upn N p w w' := ⟨h.os, h.tape, h.output, h.size, fun k hk hp => h.block k (by omega) hp⟩
theorem Upto.tn {p N : Nat} {a b c : World} (h : Upto p a b) (k : Upn N p b c) (hN : a.heap.size ≤ N) : Upto p a c :=
  ⟨k.os.trans h.os, k.tape.trans h.tape, k.output.trans h.output, Nat.le_trans h.size k.size, fun i hi hp => (k.block i (by omega) hp).trans (h.block i hi hp)⟩
theorem Upn.arr {N p b n : Nat} {w w' : World} {F : Nat → Value} (h : Upn N p w w') (A : Arr w b n F) (hb : b < N) (hp : b ≠ p) : Arr w' b n F := fun j hj =>
  ⟨(World.cell?_of_block (w := w) (a := ⟨b, j, none⟩) (h.block b hb hp)).trans (A j hj).1, (World.frozen?_of_block (w := w) (a := ⟨b, j, none⟩) (h.block b hb hp)).trans (A j hj).2⟩
theorem txs_int {W : World} {u : Value} {l : List ByteArray} {g n c : Nat} {k : Int} (h : Txs W u l) (e : u = .slice (some ⟨g, 0, none⟩) n c) (ne : l ≠ []) (c0 : W.cell? ⟨g, 0, none⟩ = some (.int .i64 k)) : False := by
  rcases h with ⟨_, h2⟩ | ⟨b, cap, h1, h0, h2⟩
  · exact ne h2
  · rw [e] at h1
    injection h1 with h1 _ _
    injection h1 with h1
    subst h1
    cases l with
    | nil => exact ne rfl
    | cons t l =>
      have := h2 0 t rfl
      rw [Addr.add_mid, Nat.zero_add, c0] at this
      cases this
theorem lnR_0 (r : ByteArray) : 0 ≤ lnR r := by
  unfold lnR
  have := bt_bd r 0
  have := bt_bd r 1
  have := bt_bd r 2
  omega
theorem fl_ff {ls : Array Bool} {i : Nat} (h : ls.getD i true = false) : ls.getD i false = false := by
  cases q : ls.getD i false with
  | false => rfl
  | true => rw [fl_tt q] at h; cases h
theorem fsh_sets {W : World} {u : Value} {l : List ByteArray} {b p : Nat} {L : List Value} (h : Txs W u l) (hF : Fsh b u) (A : Arr W p 16 (noM.c nC)) : Txs (W.setCells p 0 L) u l := txs_sets (b := b) h hF A
set_option maxHeartbeats 4000000 in
theorem readMsg_core (k : Int) (F Fi Fw : FuncId) (g : ByteArray → Option (Mg × ByteArray)) (hV : shV k = .agg (fnL (.func (.func Fi) #[] #[]) (.func (.func Fw) #[] #[]) (.func (.func F) #[] #[])).toArray) (hK : kdB k = true) (EF : Enters Tryz.prog F) (EFi : Enters Tryz.prog Fi) (C : RdC F Vm g)
    (CF : ∀ (m : Mg) (u : Value) (W : World), m.k = k → m.ok → m.cs.length ≤ 20000 → (∀ t ∈ m.cs, t.size ≤ 20000) → m.nm.size ≤ 20000 → Txs W u m.cs → Calls Tryz.prog Fi #[m.v u] W fun e w' => e = .returned (.bool (ftB m)) ∧ Below W.heap.size W w')
    (SM : ∀ (B : ByteArray) (m : Mg), B.size ≤ 20000 → whF g B = some m → m.ok ∧ m.cs.length ≤ 20000 ∧ (∀ t ∈ m.cs, t.size ≤ 20000) ∧ m.nm.size ≤ 20000)
    (p : Nat) (s : ByteArray) (hz : (s.size : Int) ≤ 281474976710656) (h0 : s.size ≠ 0) (hk : bt s 0 = k) (r : ByteArray) (hr : s.extract 1 s.size = r) (w : World) (h : Rdr w p s 11) :
    Calls Tryz.prog 27 #[rp p] w fun x w' => Upto p w w' ∧ Bod g k r p w.heap.size x w' := by
  have zr : r.size = s.size - 1 := by rw [← hr]; simp only [ByteArray.size_extract]; omega
  have A2 := newZ w w.heap.size rfl
  have hB0 := Below.alloc (Below.refl w.heap.size w) (Nat.le_refl _) (.cells z16 29)
  have hR := h.to hB0
  have hU := Below.upto p hB0
  have lt0 := h.lt
  have z0 : (w.alloc (.cells z16 29)).heap.size = w.heap.size + 1 := by simp
  have pq : w.heap.size ≠ p := by omega
  have E := fun args W => EFi args W
  go_enter Tryz.func27, Tryz.ntmps27
  go_wp2_with fail
  generalize w.alloc (.cells z16 29) = w0 at *
  have hR' : Rdr w0 p (s.extract 0 s.size) 11 := by rw [show s.extract 0 s.size = s from ByteArray.extract_zero_size]; exact hR
  refine (num1 p s 11 0 hz w0 hR' (by omega)).mono ?_
  rintro xe w1 ⟨hU1, ⟨h1, rfl, hR1⟩ | ⟨h1, rfl⟩⟩
  · rw [hk]
    have z1 := hU1.size
    replace A2 : Arr w1 w.heap.size 16 _ := fun j hj => ⟨by rw [hU1.cell (by show w.heap.size < _; omega) pq]; exact (A2 j hj).1, by rw [hU1.frozen (by show w.heap.size < _; omega) pq]; exact (A2 j hj).2⟩
    replace hU := hU.trans hU1
    simp only [Nat.zero_add] at hR1
    rw [hr] at hR1
    clear hU1 hR hR' hB0
    have SH := shapes_any w1
    go_wp2_with fail
    refine SH.mono ?_
    rintro xe w2 ⟨rfl, hs, hb2⟩
    have lk := hs.look k true
    rw [hV, hK] at lk
    simp only [if_true] at lk
    have z2 := hb2.size
    replace A2 := Arr.to' (n := 15) A2 hb2
    replace hU := hU.trans (Below.upto p hb2)
    have hR2 := hR1.to hb2
    clear hR1 SH hb2 hs
    have hC := fn_cells (.func (.func Fi) #[] #[]) (.func (.func Fw) #[] #[]) (.func (.func F) #[] #[]) rfl rfl rfl
    have A4 := (fn_cells .nilFunc .nilFunc .nilFunc rfl rfl rfl).new w2 56 w2.heap.size rfl
    go_upto_region 3 with (refine hC.wst tH A4 (by rfl) (.tmp 4) (.tmp 13) (by rfl) (by rfl) (by rfl) ?_)
    have hb3 := below_setCells (Below.alloc (Below.refl w2.heap.size w2) (Nat.le_refl _) (.cells (fnL .nilFunc .nilFunc .nilFunc).toArray 56)) (b := w2.heap.size) (Nat.le_refl _) (fnL (.func (.func Fi) #[] #[]) (.func (.func Fw) #[] #[]) (.func (.func F) #[] #[])) 0
    replace A4 := hC.set A4
    replace A2 := Arr.to' (n := 15) A2 hb3
    replace hU := hU.trans (Below.upto p hb3)
    have hR3 := hR2.to hb3
    have z3 := hb3.size
    clear hR2 hb3 lk
    generalize (w2.alloc (.cells (fnL .nilFunc .nilFunc .nilFunc).toArray 56)).setCells w2.heap.size 0 (fnL (.func (.func Fi) #[] #[]) (.func (.func Fw) #[] #[]) (.func (.func F) #[] #[])) = w3 at *
    generalize hb4 : w2.heap.size = b4 at *
    have lt4 := Arr.lt (n := 2) A4
    have lt3 := hR3.lt
    go_upto_region 5 with (fail)
    have QP : ∀ ch (a : Act) (W : World), a.defers = [] → Upto p w W → Bod g k r p w.heap.size (.panicked ch) W → bodyPost Tryz.prog Tryz.f27 (fun x w' => Upto p w w' ∧ Bod g k r p w.heap.size x w') (.panic ch) a W := fun ch a W h1 h2 h3 => ⟨h1, h2, h3⟩
    refine wp_region_st (Upn w3.heap.size p) (rmV p w3.heap.size b4 r g F) (rmF p r) rfl (by kernel_rfl) (by kernel_rfl) (fun d => ⟨rfl, rfl, rfl, Nat.le_refl _, fun _ _ _ => rfl⟩) (fun d => ?_) (fun _ _ _ h1 h2 => h1.trans h2) ?_ ?_
    · unfold rmF
      rw [if_neg (by simp), if_neg (by simp)]
      exact ⟨hR3.l, hR3.k, hR3.z⟩
    · intro ls i o ρ W hi ho hz9 hun hdep hA hFf hW hP hS
      have ci : i = 0 ∨ i = 1 ∨ i = 2 ∨ i = 3 ∨ i = 4 ∨ i = 5 ∨ i = 6 ∨ i = 7 ∨ i = 8 := by simp only [List.length_cons, List.length_nil] at hi; omega
      have hc := hP.c
      have hf := hP.f
      have AW : Arr W b4 3 _ := hW.arr A4 lt4 (by omega)
      have nW := hW.size
      have hUW := hU.tn hW (by have := hU.size; omega)
      have rf : ∀ {ll : List Oper} {i : Nat}, i ≠ 2 → i ≠ 3 → i ≠ 8 → (Upn w3.heap.size p W W ∧ rmF p r (ls.setIfInBounds i true) W ∧ ∀ j v, j < 9 → j ≠ i → ls.getD j true = true → (∀ t, dAt ll j = some t → v = ρ (.tmp t)) → rmV p w3.heap.size b4 r g F ls j v W → rmV p w3.heap.size b4 r g F (ls.setIfInBounds i true) j v W) := fun h2 h3 h8 => ⟨Upn.refl _ _ _, hFf.st h2 h3 (Below.refl _ _), fun j v _ _ _ _ q => rmV.st h2 h3 h8 j v q (Below.refl _ _)⟩
      rcases ci with rfl | rfl | rfl | rfl | rfl | rfl | rfl | rfl | rfl <;> cases ho
      · have h' : ρ (.tmp 0) = rp p := hS 0 (by kernel_rfl)
        exact .of (StG.val (by simp [execOp, h', go_sem] <;> rfl) (rf (by decide) (by decide) (by decide)) rfl)
      · have h' : ρ (.tmp 0) = rp p := hS 0 (by kernel_rfl)
        exact .of (StG.val (by simp [execOp, h', go_sem] <;> rfl) (rf (by decide) (by decide) (by decide)) rfl)
      · have h' : ρ (.tmp 19) = rp p := hS 19 (by kernel_rfl)
        have n2 : ls.getD 2 false = false := fl_ff hun
        have n3 : ls.getD 3 false = false := by
          cases q : ls.getD 3 false with
          | false => rfl
          | true =>
            obtain ⟨_, h4⟩ := hA 3 (by decide) (fl_tt q)
            have h5 : ls.getD 2 false = true := h4.1
            rw [n2] at h5; cases h5
        have R0 : Rdr W p r 11 := by unfold rmF at hFf; rw [n3, n2] at hFf; exact hFf
        rw [show (execOp ρ _).run Tryz.prog W = .ok (.enter 57 #[rp p]) W by simp [execOp, h', hf, go_sem] <;> rfl]
        refine ⟨rfl, (length_any p r 11 (by omega) W R0).mono ?_⟩
        rintro x w' ⟨hu, ⟨g1, rfl⟩ | ⟨g1, g2, rfl⟩ | ⟨g1, g2, rfl, g3⟩⟩
        · exact .inr ⟨_, rfl, fun a hd => QP _ a _ hd (hUW.trans hu) (Bod.a g1)⟩
        · exact .inr ⟨_, rfl, fun a hd => QP _ a _ hd (hUW.trans hu) (Bod.b g1 (by have := lnR_0 r; omega))⟩
        · refine .inl ⟨_, rfl, ⟨hu.upn nW, ?_, fun j v _ hne _ _ q => rmV.sr (.inl rfl) (by omega) hz9 hun j v hne q hu⟩, rfl, g1, g2⟩
          unfold rmF
          rw [on_set (by decide), n3, fl_set (by rw [hz9]; decide)]
          exact g3
      · have h1 : ρ (.tmp 18) = rp p := hS 18 (by kernel_rfl)
        obtain ⟨h2, g1, g2⟩ : ρ (.tmp 20) = .int .i64 (lnR r) ∧ lnR r ≤ 16384 ∧ 3 ≤ r.size := hS 20 (by kernel_rfl)
        have d2 : ls.getD 2 false = true := hdep ⟨2, .chain⟩ (by simp) rfl
        have n3 : ls.getD 3 false = false := fl_ff hun
        have R3 : Rdr W p (r.extract 3 r.size) 11 := by unfold rmF at hFf; rw [n3, d2] at hFf; exact hFf
        obtain ⟨n, hn⟩ : ∃ n : Nat, lnR r = n := ⟨(lnR r).toNat, by have := lnR_0 r; omega⟩
        have zz : (r.extract 3 r.size).size = r.size - 3 := by simp only [ByteArray.size_extract]; omega
        rw [show (execOp ρ _).run Tryz.prog W = .ok (.enter 56 #[rp p, .int .i64 (n : Int)]) W by rw [hn] at h2; simp [execOp, h1, h2, hf, go_sem] <;> rfl]
        refine ⟨rfl, ?_⟩
        by_cases c : n ≤ (r.extract 3 r.size).size
        · refine (take_ok p _ 11 n W R3 c).mono ?_
          rintro x w' ⟨rfl, rfl⟩
          have hu := Upto.put p 0 W (.string ((r.extract 3 r.size).extract n (r.extract 3 r.size).size))
          have eb : (r.extract 3 r.size).extract 0 n = r.extract 3 (3 + n) := ba_ext (by rw [ext_list (r.extract 3 r.size) 0 n, ex_to, ext_list r 3 (3 + n)]; simp)
          have er := ex_ex r 3 n
          refine .inl ⟨_, rfl, ⟨hu.upn nW, ?_, fun j v _ hne _ _ q => rmV.sr (.inr rfl) (by omega) hz9 hun j v hne q hu⟩, fl_keep d2, ?_, g1, by omega⟩
          · unfold rmF
            rw [fl_set (by rw [hz9]; decide), if_pos rfl, hn, Int.toNat_natCast, ← er]
            exact R3.put _
          · rw [eb, hn, Int.toNat_natCast]; rfl
        · refine (take_no p _ 11 n W R3 (by omega)).mono ?_
          rintro x w' ⟨rfl, rfl⟩
          exact .inr ⟨_, rfl, fun a hd => QP _ a _ hd hUW (Bod.b g1 (by omega))⟩
      · have h' : ρ (.tmp 4) = .pointer (some ⟨b4, 0, none⟩) := hS 4 (by kernel_rfl)
        exact .of (StG.val (by simp [execOp, h', go_sem] <;> rfl) (rf (by decide) (by decide) (by decide)) rfl)
      · have h' : ρ (.tmp 22) = .pointer (some ⟨b4, 2, none⟩) := hS 22 (by kernel_rfl)
        have l2 := AW.cv 2 (by omega) (.func (.func F) #[] #[]) rfl
        exact .of (StG.val (by simp [execOp, h', l2, go_sem] <;> rfl) (rf (by decide) (by decide) (by decide)) rfl)
      · obtain ⟨d2, h1, g1, g2⟩ : ls.getD 2 false = true ∧ ρ (.tmp 21) = .string (r.extract 3 (3 + (lnR r).toNat)) ∧ lnR r ≤ 16384 ∧ 3 + lnR r ≤ (r.size : Int) := hS 21 (by kernel_rfl)
        have h2 : ρ (.tmp 23) = .func (.func F) #[] #[] := hS 23 (by kernel_rfl)
        have d3 : ls.getD 3 false = true := hdep ⟨3, .chain⟩ (by simp) rfl
        have zB : ((r.extract 3 (3 + (lnR r).toNat)).size : Int) ≤ 20000 := by rw [ByteArray.size_extract]; omega
        have W0 := wholeM F EF C (r.extract 3 (3 + (lnR r).toNat)) zB W
        generalize hBd : r.extract 3 (3 + (lnR r).toNat) = Bd at *
        rw [show (execOp ρ _).run Tryz.prog W = .ok (.enter 55 #[.string Bd, .func (.func F) #[] #[]]) W by simp [execOp, h1, h2, hf, go_sem] <;> rfl]
        refine ⟨rfl, W0.mono ?_⟩
        rintro x w' ⟨hb, hx⟩
        cases hw : whF g Bd with
        | none =>
          rw [hw] at hx
          cases hx
          exact .inr ⟨_, rfl, fun a hd => QP _ a _ hd (hUW.trans (Below.upto p hb)) (Bod.c g1 g2 (by rw [hBd]; exact .inl hw))⟩
        | some m =>
          rw [hw] at hx
          obtain ⟨v, rfl, u, rfl, hT, hF⟩ := hx
          exact .inl ⟨_, rfl, ⟨(Below.upto p hb).upn nW, hFf.st (by decide) (by decide) hb, fun j v _ _ _ _ q => rmV.st (by decide) (by decide) (by decide) j v q hb⟩, fl_keep d2, fl_keep d3, .inr ⟨m, u, by rw [hBd]; exact hw, rfl, hT, hF.less nW⟩⟩
      · have h8 : (ls.setIfInBounds 7 true).getD 8 false = false := by
          rw [on_set (by decide)]
          cases hq : ls.getD 8 false with
          | false => rfl
          | true =>
            exfalso
            obtain ⟨_, h4⟩ := hA 8 (by decide) (fl_tt hq)
            have h5 : ls.getD 7 false = true := h4
            rw [fl_tt h5] at hun
            cases hun
        have bb := Below.alloc (Below.refl W.heap.size W) (Nat.le_refl _) (.cells z16 29)
        refine .of (StG.new (w' := W.alloc (.cells z16 29)) (v := .pointer (some ⟨W.heap.size, 0, none⟩)) (by simp [execOp, go_sem] <;> rfl) ⟨(Below.upto p bb).upn nW, hFf.st (by decide) (by decide) bb, fun j v _ _ _ _ q => rmV.st (by decide) (by decide) (by decide) j v q bb⟩ ⟨W.heap.size, rfl, nW, .inl ⟨h8, newZ W _ rfl⟩⟩)
      · obtain ⟨b6, h1, h2, h3⟩ : ∃ b6, ρ (.tmp 6) = .pointer (some ⟨b6, 0, none⟩) ∧ w3.heap.size ≤ b6 ∧ _ := hS 6 (by kernel_rfl)
        obtain ⟨_, _, h4⟩ : ls.getD 2 false = true ∧ ls.getD 3 false = true ∧ (ls.getD 8 false = true ∨ ∃ m u, whF g (r.extract 3 (3 + (lnR r).toNat)) = some m ∧ ρ (.tmp 24) = m.v u ∧ Txs W u m.cs ∧ Fsh w3.heap.size u) := hS 24 (by kernel_rfl)
        have n8 : ls.getD 8 false = false := fl_ff hun
        have l8 : 8 < ls.size := by rw [hz9]; decide
        rw [n8] at h3 h4
        have A6 : Arr W b6 16 (noM.c nC) := by
          rcases h3 with ⟨_, q⟩ | ⟨q, _⟩
          · exact q
          · cases q
        obtain ⟨m, u, q1, q2, q3, q4⟩ := h4.resolve_left (fun e => by cases e)
        have hCm := m.cells u q3.one
        rw [Mg.v_l] at q2
        have nb : b6 ≠ p := by omega
        have d7 : ls.getD 7 false = true := hdep ⟨7, .phase⟩ (by simp) rfl
        refine .of (StG.put (w' := W.setCells b6 0 (m.l u)) (by simp only [execOp, h1, q2, Sem.run_bind, run_store16 hCm A6, Result.andThen_ok, Sem.run_pure] <;> rfl) ⟨⟨(Upto.sets b6 W (m.l u) 0).os, (Upto.sets b6 W (m.l u) 0).tape, (Upto.sets b6 W (m.l u) 0).output, (Upto.sets b6 W (m.l u) 0).size, fun q hq hp => (Upto.sets b6 W (m.l u) 0).block q (by omega) (by omega)⟩, ?_, fun j v hj hne hd hv q => ?_⟩ (fl_keep d7))
        · unfold rmF at hFf ⊢
          rw [on_set (by decide), on_set (by decide)]
          exact hFf.sets nb (m.l u)
        · have cj : j = 0 ∨ j = 1 ∨ j = 2 ∨ j = 3 ∨ j = 4 ∨ j = 5 ∨ j = 6 ∨ j = 7 := by simp only [List.length_cons, List.length_nil] at hj; omega
          rcases cj with rfl | rfl | rfl | rfl | rfl | rfl | rfl | rfl
          · exact q
          · exact q
          · exact q
          · exact ⟨fl_keep q.1, q.2⟩
          · exact q
          · exact q
          · exact ⟨fl_keep q.1, fl_keep q.2.1, .inl (fl_set l8)⟩
          · obtain ⟨b6', e1, e2, e3⟩ := q
            have e := hv 6 rfl
            rw [e1, h1] at e
            cases e
            exact ⟨b6, e1, h2, .inr ⟨fl_set l8, m, u, q1, hCm.set A6, fsh_sets q3 q4 A6, q4⟩⟩
    intro ls x W hz9 hall hFf hW hv
    have n8 : ls.getD 8 false = true := fl_ft (by rw [hz9]; decide) (hall 8 (by decide))
    have n3 : ls.getD 3 false = true := fl_ft (by rw [hz9]; decide) (hall 3 (by decide))
    obtain ⟨b6, h7, z6, h6⟩ : ∃ b6, x 7 = .pointer (some ⟨b6, 0, none⟩) ∧ w3.heap.size ≤ b6 ∧ _ := hv 7 (by decide)
    obtain ⟨_, _, g1, g2⟩ : ls.getD 2 false = true ∧ x 3 = .string (r.extract 3 (3 + (lnR r).toNat)) ∧ lnR r ≤ 16384 ∧ 3 + lnR r ≤ (r.size : Int) := hv 3 (by decide)
    rw [n8] at h6
    obtain ⟨_, m, u, q1, A6, q3, q4⟩ := h6.resolve_left (fun e => by cases e.1)
    have R5 : Rdr W p (r.extract (3 + (lnR r).toNat) r.size) 11 := by unfold rmF at hFf; rw [n3] at hFf; exact hFf
    have A4' : Arr W b4 3 _ := hW.arr A4 lt4 (by omega)
    have A2' : Arr W w.heap.size 16 _ := hW.arr A2 (by have := hU.size; omega) pq
    have hU5 := hU.tn hW (by have := hU.size; omega)
    have z5 := hU5.size
    have nW := hW.size
    have nb : b6 ≠ p := by omega
    have zB : ((r.extract 3 (3 + (lnR r).toNat)).size : Int) ≤ 20000 := by rw [ByteArray.size_extract]; omega
    obtain ⟨s1, s2, s3, s4⟩ := SM _ m (by omega) q1
    have HQ1 : Hid _ := q1
    clear hv hall hFf hW A4 A2 hU hR3 q1 C SM zB
    simp only [puts, Act.put, List.setIfInBounds_toArray, List.set_cons_succ, List.set_cons_zero, h7]
    have f0 := A6.z 0 (by omega)
    have c0 := A6.c 0 (by omega)
    go_upto_region 7 with (fail)
    have A7 : Arr (W.setCell ⟨b6, 0, none⟩ (.int .i64 k)) b6 16 ((kM m k).c u) := (A6.set 0 (by omega) (.int .i64 k)).congr (to16 rfl rfl rfl rfl rfl rfl rfl rfl rfl rfl rfl rfl rfl rfl rfl rfl)
    have U7 := Upto.put b6 0 W (.int .i64 k)
    have T7 := Txs.ups (p := b6) q3 (fun a n c e ne => by
      intro q
      obtain ⟨gg, e1, _⟩ := q4 a n c e
      subst e1
      have q' : gg = b6 := q
      subst q'
      exact txs_int (k := m.k) q3 e ne c0) U7
    have R7 := R5.up U7 (fun e => nb e.symm)
    replace A4' : Arr (W.setCell ⟨b6, 0, none⟩ (.int .i64 k)) b4 3 _ := A4'.other (b' := b6) (by omega) _
    replace A2' : Arr (W.setCell ⟨b6, 0, none⟩ (.int .i64 k)) w.heap.size 16 _ := A2'.other (b' := b6) (by omega) _
    have hU7 := hU5.own b6 (by omega) U7
    have z7 := U7.size
    have hL := (kM m k).cells u q3.one
    have CFm := fun (W' : World) (hT : Txs W' u m.cs) => CF (kM m k) u W' rfl s1 s2 s3 s4 hT
    rw [(kM m k).v_l] at CFm
    have HV : Hid ((kM m k).v u = .agg ((kM m k).l u).toArray) := Mg.v_l _ _
    clear A6 c0 f0 U7 q3 R5 hU5
    generalize W.setCell ⟨b6, 0, none⟩ (.int .i64 k) = W7 at *
    generalize (kM m k).l u = L at *
    have l0 := A4'.cv 0 (by omega) (.func (.func Fi) #[] #[]) rfl
    have C7 := CFm W7 T7
    have HA : Hid _ := A2'
    clear A2' CFm
    go_wp2_with (refine hL.wld tM A7 0 (by omega) (fun j _ => by rw [Nat.zero_add]) (by rfl) (.tmp 6) (by rfl) (by rfl) ?_)
    refine C7.mono ?_
    rintro e W8 ⟨rfl, hb8⟩
    have A8 := Arr.to' (n := 15) A7 hb8
    have A28 := Arr.to' (n := 15) HA.out hb8
    have T8 := T7.to hb8
    have R8 := R7.to hb8
    have hU8 := hU7.trans (Below.upto p hb8)
    clear hb8 A7 HA T7 R7 hU7 l0 C7 A4'
    cases hft : ftB (kM m k) with
    | false =>
      have HX : Hid _ := hft
      clear hft
      go_wp2_with fail
      exact QP _ _ _ rfl hU8 (Bod.c g1 g2 (.inr ⟨m, HQ1.out, HX.out⟩))
    | true =>
      have HX : Hid _ := hft
      have HA : Hid _ := A28
      clear hft A28
      go_wp2_with (first | (refine hL.wld tM A8 0 (by omega) (fun j _ => by rw [Nat.zero_add]) (by rfl) (.tmp 6) (by rfl) (by rfl) ?_) | (refine hL.wst tM HA.out (by rfl) (.tmp 2) (.tmp 33) (by rfl) (by rfl) (by rfl) ?_))
      have A9 := hL.set HA.out
      refine bodyPost_ret (results_cell1 rfl _ rfl (hL.ld tM A9 0 (by omega) (fun j _ => by rw [Nat.zero_add]))) rfl ⟨hU8.own w.heap.size (Nat.le_refl _) (Upto.sets w.heap.size W8 L 0), ?_⟩
      exact .inr (.inr (.inr ⟨g1, g2, m, u, HQ1.out, HX.out, by rw [HV.out], T8.up q4 (by omega) (Upto.sets _ _ _ _), q4.less (by omega), R8.sets pq L⟩))
  · omega
end Go.Proofs.YtjdpeedghpblgaaGreatDoor
