/- The reference of nego: Accept. -/
import Derived.Below
import Derived.Test.YtbhmbdkijpocmaaGreatDoorJ10
import Derived.Test.YtbhmbdkijpocmaaGreatDoorJ1
set_option linter.all false
set_option maxRecDepth 100000
namespace Go.Proofs.YtbhmbdkijpocmaaGreatDoor
open Go.RowKit Go.Shelf Go.Sort Go.Lib
def acX (n2 : Nat) (U : Int) (b1 : Bool) (x1 : Int) (b4 hz : Bool) (kz : Int) (L5 L6 L7 : List Ke) (b7 : Bool) (x7 : Int) : Int :=
  if n2 ≠ 0 then 14 else if 0 ≤ U then 23
  else if b1 = false ∨ x1 ≠ 0 then 10 else if b4 = false then 10
  else if hz = false ∨ kz = 0 then 13
  else if L5.length = 0 then 19 else if 8 < L5.length then 18
  else if (L5.all fun r => cookB r.s) = false then 12
  else if 1 < L6.length ∨ 1 < L7.length then 24
  else if L6.length = 1 ∧ hostB (hdS L6) = false then 20
  else if L7.length = 1 ∧ (b7 = false ∨ portB x7 = false) then 13 else 0
def acD (E x4 : Int) (L5 L6 L7 : List Ke) (x7 : Int) : Dl := if E = 0 then ⟨x4, L5.map (·.s), if L6.length = 1 then hdS L6 else ⟨#[]⟩, if L7.length = 1 then x7 else 0⟩ else zD
theorem results_cellT {P : Program} {fn : Func} {p q : Tmp} {ty : TypeId} {a : Addr} {v : Value} {w : World} (h : fn.results = #[.cell p ty, .tmp q]) (tmps : Array Value) (hp : tmps.getD p undef = .pointer (some a)) (hl : (loadVar ty a).run P w = .ok v w) :
    (results fn tmps).run P w = .ok (.tuple #[v, tmps.getD q undef]) w := by
  have hp' : tmps[p]?.getD undef = .pointer (some a) := by simpa using hp
  simp only [results, h]
  simp [Sem.run_bind, hp', asAddr, hl]
theorem ld4 {W : World} {b : Nat} {f : Nat → Value} (A : Arr W b 4 f) (v0 v1 v2 v3 : Value) :
    (loadVar 38 ⟨b, 0, none⟩).run Tryz.prog ((((W.setCell ⟨b, 0, none⟩ v0).setCell ⟨b, 1, none⟩ v1).setCell ⟨b, 2, none⟩ v2).setCell ⟨b, 3, none⟩ v3) = .ok (.agg #[v0, v1, v2, v3]) ((((W.setCell ⟨b, 0, none⟩ v0).setCell ⟨b, 1, none⟩ v1).setCell ⟨b, 2, none⟩ v2).setCell ⟨b, 3, none⟩ v3) := by
  have A3 := (((A.set 0 (by omega) v0).set 1 (by omega) v1).set 2 (by omega) v2).set 3 (by omega) v3
  have c0 := A3.cv 0 (by omega) v0 rfl
  have c1 := A3.cv 1 (by omega) v1 rfl
  have c2 := A3.cv 2 (by omega) v2 rfl
  have c3 := A3.cv 3 (by omega) v3 rfl
  simp [loadVar, go_sem, c0, c1, c2, c3]
theorem set4_below {W V : World} {B b : Nat} (h : Below B W V) (hb : B ≤ b) (v0 v1 v2 v3 : Value) : Below B W ((((V.setCell ⟨b, 0, none⟩ v0).setCell ⟨b, 1, none⟩ v1).setCell ⟨b, 2, none⟩ v2).setCell ⟨b, 3, none⟩ v3) :=
  (((h.setCell (p := ⟨b, 0, none⟩) hb v0).setCell (p := ⟨b, 1, none⟩) hb v1).setCell (p := ⟨b, 2, none⟩) hb v2).setCell (p := ⟨b, 3, none⟩) hb v3
theorem Sls.nil (w : World) : Sls w (.slice none 0 0) [] := ⟨none, 0, rfl, fun i r h => by cases h⟩
theorem Tryz.info9s : (Tryz.prog.info? 9).map (fun i => (i.zero, i.size, i.bytes)) = some (some (.string ⟨#[]⟩), 1, 16) := by kernel_rfl
/-- The four cells of what a client has got. -/
def DV (a : Int) (vc : Value) (h : ByteArray) (p : Int) : Nat → Value := fun k => ([Value.int .i64 a, vc, .string h, .int .i64 p] : List Value).getD k undef
theorem DV.set1 {W : World} {b : Nat} {a p : Int} {vc : Value} {h : ByteArray} (A : Arr W b 4 (DV a vc h p)) (v : Value) : Arr (W.setCell ⟨b, 1, none⟩ v) b 4 (DV a v h p) := (A.set 1 (by omega) v).congr fun j hj => by
  match j, hj with
  | 0, _ => rfl
  | 1, _ => rfl
  | 2, _ => rfl
  | 3, _ => rfl
theorem DV.set2 {W : World} {b : Nat} {a p : Int} {vc : Value} {h : ByteArray} (A : Arr W b 4 (DV a vc h p)) (s : ByteArray) : Arr (W.setCell ⟨b, 2, none⟩ (.string s)) b 4 (DV a vc s p) := (A.set 2 (by omega) (.string s)).congr fun j hj => by
  match j, hj with
  | 0, _ => rfl
  | 1, _ => rfl
  | 2, _ => rfl
  | 3, _ => rfl
theorem DV.set3 {W : World} {b : Nat} {a p : Int} {vc : Value} {h : ByteArray} (A : Arr W b 4 (DV a vc h p)) (n : Int) : Arr (W.setCell ⟨b, 3, none⟩ (.int .i64 n)) b 4 (DV a vc h n) := (A.set 3 (by omega) (.int .i64 n)).congr fun j hj => by
  match j, hj with
  | 0, _ => rfl
  | 1, _ => rfl
  | 2, _ => rfl
  | 3, _ => rfl
theorem arr_far' {W W' : World} {b n : Nat} {f : Nat → Value} {row : Option Nat} (h : Arr W b (n + 1) f) (hg : W.grownBy W' row) (hne : some b ≠ row) : Arr W' b (n + 1) f := fun j hj =>
  ⟨(World.cell?_of_block (a := ⟨b, j, none⟩) (hg.block b h.lt hne)).trans (h j hj).1, (World.frozen?_of_block (a := ⟨b, j, none⟩) (hg.block b h.lt hne)).trans (h j hj).2⟩
theorem Sls.own {W : World} {b : Nat} {v : Value} {l : List ByteArray} (h : W.ownsRow b 9 1 v l.length (l.map Value.string)) : Sls W v l := by
  have hl := h.lt
  have hc := fun g hg => World.ownsRow.cells h (g := g) hg
  rcases h.2 with ⟨h1, h0⟩ | ⟨g, c, cur, h1, _⟩
  · have e : l = [] := List.eq_nil_of_length_eq_zero h0
    subst e
    rw [h1]
    exact Sls.nil W
  · subst h1
    refine ⟨_, c, rfl, fun i r hi => ⟨g, 0, rfl, (hl g rfl).2, ?_⟩⟩
    have := hc g rfl i (.string r) (by rw [List.getElem?_map, hi]; rfl)
    rwa [Addr.add_mid] at this
theorem own_set4 {W : World} {B b : Nat} {v : Value} {n : Nat} {xs : List Value} (h : W.ownsRow B 9 1 v n xs) (hb : b < B) (v0 v1 v2 v3 : Value) : ((((W.setCell ⟨b, 0, none⟩ v0).setCell ⟨b, 1, none⟩ v1).setCell ⟨b, 2, none⟩ v2).setCell ⟨b, 3, none⟩ v3).ownsRow B 9 1 v n xs :=
  ownsRow_setCell_below (a := ⟨b, 3, none⟩) (ownsRow_setCell_below (a := ⟨b, 2, none⟩) (ownsRow_setCell_below (a := ⟨b, 1, none⟩) (ownsRow_setCell_below (a := ⟨b, 0, none⟩) h hb v0) hb v1) hb v2) hb v3
/-- What the cookie's region gives. -/
def ckV (b11 g oo n5 c5 : Nat) (vc : Value) (j : Nat) (s : ByteArray) : Nat → Value → World → Prop
  | 0, v, _ => v = .pointer (some ⟨b11, 1, none⟩)
  | 1, v, _ => v = vc
  | 2, v, _ => v = .slice (some ⟨g, oo, none⟩) n5 c5
  | 3, v, _ => v = .int .i64 (j : Int)
  | 4, v, _ => v = .pointer (some ⟨g, oo + j * 3, none⟩)
  | 5, v, _ => v = .pointer (some ⟨g, oo + j * 3 + 2, none⟩)
  | 6, v, _ => v = .string s
  | 7, v, W => ∃ q, v = .slice (some ⟨q, 0, none⟩) 1 1 ∧ q < W.heap.size ∧ W.cell? ⟨q, 0, none⟩ = some (.string s)
  | _, _, _ => True
theorem ckV.st (b11 g oo n5 c5 : Nat) (vc : Value) (j : Nat) (s : ByteArray) (i : Nat) (v : Value) (w w' : World) (h : ckV b11 g oo n5 c5 vc j s i v w) (hb : Below w.heap.size w w') : ckV b11 g oo n5 c5 vc j s i v w' := by
  match i, h with
  | 0, h => exact h
  | 1, h => exact h
  | 2, h => exact h
  | 3, h => exact h
  | 4, h => exact h
  | 5, h => exact h
  | 6, h => exact h
  | 7, ⟨q, h1, h2, h3⟩ => exact ⟨q, h1, Nat.lt_of_lt_of_le h2 hb.size, (hb.cell (p := ⟨q, 0, none⟩) h2).trans h3⟩
  | _ + 8, _ => trivial
theorem one_news {W : World} {q : Nat} {s : ByteArray} (h : W.cell? ⟨q, 0, none⟩ = some (.string s)) : ∀ j u, ([Value.string s] : List Value)[j]? = some u → W.cell? ((⟨q, 0, none⟩ : Addr).add j) = some u := by
  intro j u hj
  cases j with
  | zero => rw [Addr.add_mid, Nat.zero_add, h]; simpa using hj
  | succ j => cases hj
theorem acc_bad {E : Int} (h : E ≠ 0) (x4 : Int) (L5 L6 L7 : List Ke) (x7 : Int) : acD E x4 L5 L6 L7 x7 = zD := by unfold acD; rw [if_neg h]
set_option maxHeartbeats 8000000 in
theorem nAccept_core (va vl : Value) (w : World) (n2 : Nat) (U : Int) (b1 : Bool) (x1 : Int) (b4' : Bool) (x4 : Int) (hz : Bool) (kz : Int) (L5 L6 L7 : List Ke) (b7 : Bool) (x7 : Int) (m2 : n2 ≤ 100000) (m5 : L5.length ≤ 100000) (m6 : L6.length ≤ 100000) (m7 : L7.length ≤ 100000) (q5 : ∀ r ∈ L5, r.s.size ≤ 9223372036854775807) (q6 : ∀ r ∈ L6, r.s.size ≤ 9223372036854775807)
    (C2 : ∀ W, Below w.heap.size w W → Calls Tryz.prog 57 #[vl, .int .i64 2] W fun e w' => (∃ a c, e = .returned (.slice a n2 c)) ∧ Below W.heap.size W w')
    (CU : ∀ W, Below w.heap.size w W → Calls Tryz.prog 19 #[vl] W fun e w' => e = .returned (.int .i64 U) ∧ Below W.heap.size W w')
    (C1 : ∀ W, Below w.heap.size w W → Calls Tryz.prog 58 #[vl, .int .i64 1] W fun e w' => e = .returned (.tuple #[.int .i64 x1, .bool b1]) ∧ Below W.heap.size W w')
    (C4 : ∀ W, Below w.heap.size w W → Calls Tryz.prog 58 #[vl, .int .i64 4] W fun e w' => e = .returned (.tuple #[.int .i64 x4, .bool b4']) ∧ Below W.heap.size W w')
    (CH : ∀ W, Below w.heap.size w W → Calls Tryz.prog 45 #[va, .int .i64 x4] W fun e w' => e = .returned (.bool hz) ∧ w' = W)
    (CK : ∀ W, Calls Tryz.prog 46 #[.int .i64 x4] W fun e w' => e = .returned (.int .i64 kz) ∧ w' = W)
    (C5 : ∀ W, Below w.heap.size w W → Calls Tryz.prog 57 #[vl, .int .i64 5] W fun e w' => (∃ v, e = .returned v ∧ Kls w' v L5) ∧ Below W.heap.size W w')
    (C6 : ∀ W, Below w.heap.size w W → Calls Tryz.prog 57 #[vl, .int .i64 6] W fun e w' => (∃ v, e = .returned v ∧ Kls w' v L6) ∧ Below W.heap.size W w')
    (C7 : ∀ W, Below w.heap.size w W → Calls Tryz.prog 57 #[vl, .int .i64 7] W fun e w' => (∃ v, e = .returned v ∧ Kls w' v L7) ∧ Below W.heap.size W w')
    (CS : ∀ W, Below w.heap.size w W → Calls Tryz.prog 58 #[vl, .int .i64 7] W fun e w' => e = .returned (.tuple #[.int .i64 x7, .bool b7]) ∧ Below W.heap.size W w') :
    Calls Tryz.prog 15 #[va, vl] w fun e w' => (∃ vc, e = .returned (.tuple #[dlV (acD (acX n2 U b1 x1 b4' hz kz L5 L6 L7 b7 x7) x4 L5 L6 L7 x7) vc, .int .i64 (acX n2 U b1 x1 b4' hz kz L5 L6 L7 b7 x7)]) ∧ Sls w' vc (acD (acX n2 U b1 x1 b4' hz kz L5 L6 L7 b7 x7) x4 L5 L6 L7 x7).cs) ∧ Below w.heap.size w w' := by
  have A4 := Arr.al' (n := 3) (Arr.new w #[Value.int .i64 0, .slice none 0 0, .string ⟨#[]⟩, .int .i64 0] 38 _ rfl _ 4 (dlC_at 0 (.slice none 0 0) ⟨#[]⟩ 0)) (.cells #[.int .i64 0, .slice none 0 0, .string ⟨#[]⟩, .int .i64 0] 38)
  have A6 := Arr.new (w.alloc (.cells #[.int .i64 0, .slice none 0 0, .string ⟨#[]⟩, .int .i64 0] 38)) #[Value.int .i64 0, .slice none 0 0, .string ⟨#[]⟩, .int .i64 0] 38 _ rfl _ 4 (dlC_at 0 (.slice none 0 0) ⟨#[]⟩ 0)
  have hB0 := Bel.al (Bel.al (Below.refl w.heap.size w) (.cells #[.int .i64 0, .slice none 0 0, .string ⟨#[]⟩, .int .i64 0] 38)) (.cells #[.int .i64 0, .slice none 0 0, .string ⟨#[]⟩, .int .i64 0] 38)
  rw [World.size_alloc] at A6
  have hsz : ((w.alloc (.cells #[.int .i64 0, .slice none 0 0, .string ⟨#[]⟩, .int .i64 0] 38)).alloc (.cells #[.int .i64 0, .slice none 0 0, .string ⟨#[]⟩, .int .i64 0] 38)).heap.size = w.heap.size + 2 := by simp
  go_enter Tryz.func15, Tryz.ntmps15
  go_wp2_with fail
  generalize (w.alloc (.cells #[.int .i64 0, .slice none 0 0, .string ⟨#[]⟩, .int .i64 0] 38)).alloc (.cells #[.int .i64 0, .slice none 0 0, .string ⟨#[]⟩, .int .i64 0] 38) = W1 at *
  obtain ⟨b4, hb4⟩ : ∃ b, w.heap.size = b := ⟨_, rfl⟩
  have HB4 : Hid (w.heap.size = b4) := hb4
  rw [hb4] at A4 A6 hsz
  obtain ⟨b6, hb6⟩ : ∃ b, b4 + 1 = b := ⟨_, rfl⟩
  rw [hb6] at A6
  have HW4 : Hid (w.heap.size ≤ b4) := by show _ ≤ _; omega
  have lt4 := Arr.lt (n := 3) A4
  have ne : b4 ≠ b6 := by omega
  have ne' : b6 ≠ b4 := by omega
  have sz1 : b6 < W1.heap.size := by omega
  simp only [hb4, hb6]
  clear hb4 hb6 hsz
  refine (C2 _ hB0).mono ?_
  rintro e w2 ⟨⟨a2, e2, rfl⟩, B2⟩
  clear C2
  by_cases k1 : n2 ≠ 0
  · have i1 : (0 : Int) < (n2 : Int) := by omega
    have P4 := A4.to' B2
    have P6 := A6.to' B2
    have c0 := P6.cv 0 (by decide) (.int .i64 0) rfl
    have c1 := P6.cv 1 (by decide) (.slice none 0 0) rfl
    have c2 := P6.cv 2 (by decide) (.string ⟨#[]⟩) rfl
    have c3 := P6.cv 3 (by decide) (.int .i64 0) rfl
    have d0 := P4.cv 0 (by decide) (.int .i64 0) rfl
    have d1 := P4.cv 1 (by decide) (.slice none 0 0) rfl
    have d2 := P4.cv 2 (by decide) (.string ⟨#[]⟩) rfl
    have d3 := P4.cv 3 (by decide) (.int .i64 0) rfl
    have z0 := P4.z 0 (by decide)
    have z1 := P4.z 1 (by decide)
    have z2 := P4.z 2 (by decide)
    have z3 := P4.z 3 (by decide)
    have HP4 : Hid (Arr _ b4 4 _) := P4
    have HE : Hid (acX n2 U b1 x1 b4' hz kz L5 L6 L7 b7 x7 = 14) := by show _ = _; unfold acX; rw [if_pos k1]
    have HBB : Hid (Below w.heap.size w _) := Bel.call hB0 B2
    clear P4 P6
    go_wp2_with fail
    exact bodyPost_ret (results_cellT rfl _ rfl (ld4 HP4.out _ _ _ _)) rfl ⟨⟨_, by rw [HE.out, acc_bad (by decide)]; rfl, by rw [HE.out, acc_bad (by decide)]; exact Sls.nil _⟩, set4_below HBB.out HW4.out _ _ _ _⟩
  have N1 : Hid (n2 = 0) := by show _ = _; omega
  have j1 : (n2 : Int) = 0 := by have := N1.out; omega
  clear k1
  go_wp2_with fail
  refine (CU _ (Bel.call hB0 B2)).mono ?_
  rintro e w3 ⟨rfl, b3⟩
  have B3 := Bel.call B2 b3
  clear CU b3 B2
  by_cases k2 : 0 ≤ U
  · have P4 := A4.to' B3
    have P6 := A6.to' B3
    have c0 := P6.cv 0 (by decide) (.int .i64 0) rfl
    have c1 := P6.cv 1 (by decide) (.slice none 0 0) rfl
    have c2 := P6.cv 2 (by decide) (.string ⟨#[]⟩) rfl
    have c3 := P6.cv 3 (by decide) (.int .i64 0) rfl
    have d0 := P4.cv 0 (by decide) (.int .i64 0) rfl
    have d1 := P4.cv 1 (by decide) (.slice none 0 0) rfl
    have d2 := P4.cv 2 (by decide) (.string ⟨#[]⟩) rfl
    have d3 := P4.cv 3 (by decide) (.int .i64 0) rfl
    have z0 := P4.z 0 (by decide)
    have z1 := P4.z 1 (by decide)
    have z2 := P4.z 2 (by decide)
    have z3 := P4.z 3 (by decide)
    have HP4 : Hid (Arr _ b4 4 _) := P4
    have HE : Hid (acX n2 U b1 x1 b4' hz kz L5 L6 L7 b7 x7 = 23) := by show _ = _; unfold acX; rw [if_neg (fun q => q N1.out), if_pos k2]
    have HBB : Hid (Below w.heap.size w _) := Bel.call hB0 B3
    clear P4 P6
    go_wp2_with fail
    exact bodyPost_ret (results_cellT rfl _ rfl (ld4 HP4.out _ _ _ _)) rfl ⟨⟨_, by rw [HE.out, acc_bad (by decide)]; rfl, by rw [HE.out, acc_bad (by decide)]; exact Sls.nil _⟩, set4_below HBB.out HW4.out _ _ _ _⟩
  have N2 : Hid (U < 0) := by show _ < _; omega
  go_wp2_with fail
  refine (C1 _ (Bel.call hB0 B3)).mono ?_
  rintro e w4 ⟨rfl, b4x⟩
  have B4 := Bel.call B3 b4x
  clear C1 b4x B3
  cases b1
  case false =>
    have P4 := A4.to' B4
    have P6 := A6.to' B4
    have c0 := P6.cv 0 (by decide) (.int .i64 0) rfl
    have c1 := P6.cv 1 (by decide) (.slice none 0 0) rfl
    have c2 := P6.cv 2 (by decide) (.string ⟨#[]⟩) rfl
    have c3 := P6.cv 3 (by decide) (.int .i64 0) rfl
    have d0 := P4.cv 0 (by decide) (.int .i64 0) rfl
    have d1 := P4.cv 1 (by decide) (.slice none 0 0) rfl
    have d2 := P4.cv 2 (by decide) (.string ⟨#[]⟩) rfl
    have d3 := P4.cv 3 (by decide) (.int .i64 0) rfl
    have z0 := P4.z 0 (by decide)
    have z1 := P4.z 1 (by decide)
    have z2 := P4.z 2 (by decide)
    have z3 := P4.z 3 (by decide)
    have HP4 : Hid (Arr _ b4 4 _) := P4
    have HE : Hid (acX n2 U false x1 b4' hz kz L5 L6 L7 b7 x7 = 10) := by show _ = _; unfold acX; rw [if_neg (fun q => q N1.out), if_neg (Int.not_le.2 N2.out), if_pos (.inl rfl)]
    have HBB : Hid (Below w.heap.size w _) := Bel.call hB0 B4
    clear P4 P6
    go_wp2_with fail
    exact bodyPost_ret (results_cellT rfl _ rfl (ld4 HP4.out _ _ _ _)) rfl ⟨⟨_, by rw [HE.out, acc_bad (by decide)]; rfl, by rw [HE.out, acc_bad (by decide)]; exact Sls.nil _⟩, set4_below HBB.out HW4.out _ _ _ _⟩
  by_cases k3 : x1 ≠ 0
  · have i3 : (x1 != 0) = true := by simpa using k3
    have P4 := A4.to' B4
    have P6 := A6.to' B4
    have c0 := P6.cv 0 (by decide) (.int .i64 0) rfl
    have c1 := P6.cv 1 (by decide) (.slice none 0 0) rfl
    have c2 := P6.cv 2 (by decide) (.string ⟨#[]⟩) rfl
    have c3 := P6.cv 3 (by decide) (.int .i64 0) rfl
    have d0 := P4.cv 0 (by decide) (.int .i64 0) rfl
    have d1 := P4.cv 1 (by decide) (.slice none 0 0) rfl
    have d2 := P4.cv 2 (by decide) (.string ⟨#[]⟩) rfl
    have d3 := P4.cv 3 (by decide) (.int .i64 0) rfl
    have z0 := P4.z 0 (by decide)
    have z1 := P4.z 1 (by decide)
    have z2 := P4.z 2 (by decide)
    have z3 := P4.z 3 (by decide)
    have HP4 : Hid (Arr _ b4 4 _) := P4
    have HE : Hid (acX n2 U true x1 b4' hz kz L5 L6 L7 b7 x7 = 10) := by show _ = _; unfold acX; rw [if_neg (fun q => q N1.out), if_neg (Int.not_le.2 N2.out), if_pos (.inr k3)]
    have HBB : Hid (Below w.heap.size w _) := Bel.call hB0 B4
    clear P4 P6
    go_wp2_with fail
    exact bodyPost_ret (results_cellT rfl _ rfl (ld4 HP4.out _ _ _ _)) rfl ⟨⟨_, by rw [HE.out, acc_bad (by decide)]; rfl, by rw [HE.out, acc_bad (by decide)]; exact Sls.nil _⟩, set4_below HBB.out HW4.out _ _ _ _⟩
  obtain rfl : x1 = 0 := by omega
  clear k3
  have N3 : Hid (¬ ((true : Bool) = false ∨ (0 : Int) ≠ 0)) := by show ¬ _; decide
  go_wp2_with fail
  refine (C4 _ (Bel.call hB0 B4)).mono ?_
  rintro e w5 ⟨rfl, b5⟩
  have B5 := Bel.call B4 b5
  clear C4 b5 B4
  cases b4'
  case false =>
    have P4 := A4.to' B5
    have P6 := A6.to' B5
    have c0 := P6.cv 0 (by decide) (.int .i64 0) rfl
    have c1 := P6.cv 1 (by decide) (.slice none 0 0) rfl
    have c2 := P6.cv 2 (by decide) (.string ⟨#[]⟩) rfl
    have c3 := P6.cv 3 (by decide) (.int .i64 0) rfl
    have d0 := P4.cv 0 (by decide) (.int .i64 0) rfl
    have d1 := P4.cv 1 (by decide) (.slice none 0 0) rfl
    have d2 := P4.cv 2 (by decide) (.string ⟨#[]⟩) rfl
    have d3 := P4.cv 3 (by decide) (.int .i64 0) rfl
    have z0 := P4.z 0 (by decide)
    have z1 := P4.z 1 (by decide)
    have z2 := P4.z 2 (by decide)
    have z3 := P4.z 3 (by decide)
    have HP4 : Hid (Arr _ b4 4 _) := P4
    have HE : Hid (acX n2 U true 0 false hz kz L5 L6 L7 b7 x7 = 10) := by show _ = _; unfold acX; rw [if_neg (fun q => q N1.out), if_neg (Int.not_le.2 N2.out), if_neg N3.out, if_pos rfl]
    have HBB : Hid (Below w.heap.size w _) := Bel.call hB0 B5
    clear P4 P6
    go_wp2_with fail
    exact bodyPost_ret (results_cellT rfl _ rfl (ld4 HP4.out _ _ _ _)) rfl ⟨⟨_, by rw [HE.out, acc_bad (by decide)]; rfl, by rw [HE.out, acc_bad (by decide)]; exact Sls.nil _⟩, set4_below HBB.out HW4.out _ _ _ _⟩
  go_wp2_with fail
  refine (CH _ (Bel.call hB0 B5)).mono ?_
  rintro e w6 ⟨rfl, rfl⟩
  clear CH
  cases hz
  case false =>
    have P4 := A4.to' B5
    have P6 := A6.to' B5
    have c0 := P6.cv 0 (by decide) (.int .i64 0) rfl
    have c1 := P6.cv 1 (by decide) (.slice none 0 0) rfl
    have c2 := P6.cv 2 (by decide) (.string ⟨#[]⟩) rfl
    have c3 := P6.cv 3 (by decide) (.int .i64 0) rfl
    have d0 := P4.cv 0 (by decide) (.int .i64 0) rfl
    have d1 := P4.cv 1 (by decide) (.slice none 0 0) rfl
    have d2 := P4.cv 2 (by decide) (.string ⟨#[]⟩) rfl
    have d3 := P4.cv 3 (by decide) (.int .i64 0) rfl
    have z0 := P4.z 0 (by decide)
    have z1 := P4.z 1 (by decide)
    have z2 := P4.z 2 (by decide)
    have z3 := P4.z 3 (by decide)
    have HP4 : Hid (Arr _ b4 4 _) := P4
    have HE : Hid (acX n2 U true 0 true false kz L5 L6 L7 b7 x7 = 13) := by show _ = _; unfold acX; rw [if_neg (fun q => q N1.out), if_neg (Int.not_le.2 N2.out), if_neg N3.out, if_neg (by decide), if_pos (.inl rfl)]
    have HBB : Hid (Below w.heap.size w _) := Bel.call hB0 B5
    clear P4 P6
    go_wp2_with fail
    exact bodyPost_ret (results_cellT rfl _ rfl (ld4 HP4.out _ _ _ _)) rfl ⟨⟨_, by rw [HE.out, acc_bad (by decide)]; rfl, by rw [HE.out, acc_bad (by decide)]; exact Sls.nil _⟩, set4_below HBB.out HW4.out _ _ _ _⟩
  go_wp2_with fail
  refine (CK _).mono ?_
  rintro e w6 ⟨rfl, rfl⟩
  clear CK
  by_cases k5 : kz = 0
  · have P4 := A4.to' B5
    have P6 := A6.to' B5
    have c0 := P6.cv 0 (by decide) (.int .i64 0) rfl
    have c1 := P6.cv 1 (by decide) (.slice none 0 0) rfl
    have c2 := P6.cv 2 (by decide) (.string ⟨#[]⟩) rfl
    have c3 := P6.cv 3 (by decide) (.int .i64 0) rfl
    have d0 := P4.cv 0 (by decide) (.int .i64 0) rfl
    have d1 := P4.cv 1 (by decide) (.slice none 0 0) rfl
    have d2 := P4.cv 2 (by decide) (.string ⟨#[]⟩) rfl
    have d3 := P4.cv 3 (by decide) (.int .i64 0) rfl
    have z0 := P4.z 0 (by decide)
    have z1 := P4.z 1 (by decide)
    have z2 := P4.z 2 (by decide)
    have z3 := P4.z 3 (by decide)
    have HP4 : Hid (Arr _ b4 4 _) := P4
    have HE : Hid (acX n2 U true 0 true true kz L5 L6 L7 b7 x7 = 13) := by show _ = _; unfold acX; rw [if_neg (fun q => q N1.out), if_neg (Int.not_le.2 N2.out), if_neg N3.out, if_neg (by decide), if_pos (.inr k5)]
    have HBB : Hid (Below w.heap.size w _) := Bel.call hB0 B5
    clear P4 P6
    go_wp2_with fail
    exact bodyPost_ret (results_cellT rfl _ rfl (ld4 HP4.out _ _ _ _)) rfl ⟨⟨_, by rw [HE.out, acc_bad (by decide)]; rfl, by rw [HE.out, acc_bad (by decide)]; exact Sls.nil _⟩, set4_below HBB.out HW4.out _ _ _ _⟩
  have N5 : Hid (¬ ((true : Bool) = false ∨ kz = 0)) := fun q => by rcases q with q | q; cases q; exact k5 q
  go_wp2_with fail
  refine (C5 _ (Bel.call hB0 B5)).mono ?_
  rintro e w7 ⟨⟨v5, rfl, K5⟩, b7x⟩
  have B7 := Bel.call B5 b7x
  clear C5 b7x B5
  have hv5 : ∃ a c, v5 = .slice a L5.length c := by obtain ⟨a, c, e, _⟩ := K5; exact ⟨a, c, e⟩
  obtain ⟨a5, c5, rfl⟩ := hv5
  obtain ⟨n5, hn5⟩ : ∃ n, L5.length = n := ⟨_, rfl⟩
  have HN5 : Hid (L5.length = n5) := hn5
  have HK5 : Hid (Kls w7 (.slice a5 L5.length c5) L5) := K5
  rw [hn5] at m5 ⊢
  clear hn5 K5
  by_cases k6 : n5 = 0
  · have j6 : (n5 : Int) = 0 := by omega
    have P4 := A4.to' B7
    have P6 := A6.to' B7
    have c0 := P6.cv 0 (by decide) (.int .i64 0) rfl
    have c1 := P6.cv 1 (by decide) (.slice none 0 0) rfl
    have c2 := P6.cv 2 (by decide) (.string ⟨#[]⟩) rfl
    have c3 := P6.cv 3 (by decide) (.int .i64 0) rfl
    have d0 := P4.cv 0 (by decide) (.int .i64 0) rfl
    have d1 := P4.cv 1 (by decide) (.slice none 0 0) rfl
    have d2 := P4.cv 2 (by decide) (.string ⟨#[]⟩) rfl
    have d3 := P4.cv 3 (by decide) (.int .i64 0) rfl
    have z0 := P4.z 0 (by decide)
    have z1 := P4.z 1 (by decide)
    have z2 := P4.z 2 (by decide)
    have z3 := P4.z 3 (by decide)
    have HP4 : Hid (Arr _ b4 4 _) := P4
    have HE : Hid (acX n2 U true 0 true true kz L5 L6 L7 b7 x7 = 19) := by show _ = _; unfold acX; rw [if_neg (fun q => q N1.out), if_neg (Int.not_le.2 N2.out), if_neg N3.out, if_neg (by decide), if_neg N5.out, if_pos (by rw [HN5.out]; exact k6)]
    have HBB : Hid (Below w.heap.size w _) := Bel.call hB0 B7
    clear P4 P6
    go_wp2_with fail
    exact bodyPost_ret (results_cellT rfl _ rfl (ld4 HP4.out _ _ _ _)) rfl ⟨⟨_, by rw [HE.out, acc_bad (by decide)]; rfl, by rw [HE.out, acc_bad (by decide)]; exact Sls.nil _⟩, set4_below HBB.out HW4.out _ _ _ _⟩
  have N6 : Hid (¬ L5.length = 0) := by show ¬ _; rw [HN5.out]; exact k6
  have j6 : ((n5 : Int) == 0) = false := by simpa using k6
  by_cases k7 : 8 < n5
  · have j7 : (8 : Int) < (n5 : Int) := by omega
    have P4 := A4.to' B7
    have P6 := A6.to' B7
    have c0 := P6.cv 0 (by decide) (.int .i64 0) rfl
    have c1 := P6.cv 1 (by decide) (.slice none 0 0) rfl
    have c2 := P6.cv 2 (by decide) (.string ⟨#[]⟩) rfl
    have c3 := P6.cv 3 (by decide) (.int .i64 0) rfl
    have d0 := P4.cv 0 (by decide) (.int .i64 0) rfl
    have d1 := P4.cv 1 (by decide) (.slice none 0 0) rfl
    have d2 := P4.cv 2 (by decide) (.string ⟨#[]⟩) rfl
    have d3 := P4.cv 3 (by decide) (.int .i64 0) rfl
    have z0 := P4.z 0 (by decide)
    have z1 := P4.z 1 (by decide)
    have z2 := P4.z 2 (by decide)
    have z3 := P4.z 3 (by decide)
    have HP4 : Hid (Arr _ b4 4 _) := P4
    have HE : Hid (acX n2 U true 0 true true kz L5 L6 L7 b7 x7 = 18) := by show _ = _; unfold acX; rw [if_neg (fun q => q N1.out), if_neg (Int.not_le.2 N2.out), if_neg N3.out, if_neg (by decide), if_neg N5.out, if_neg N6.out, if_pos (by rw [HN5.out]; exact k7)]
    have HBB : Hid (Below w.heap.size w _) := Bel.call hB0 B7
    clear P4 P6
    go_wp2_with fail
    exact bodyPost_ret (results_cellT rfl _ rfl (ld4 HP4.out _ _ _ _)) rfl ⟨⟨_, by rw [HE.out, acc_bad (by decide)]; rfl, by rw [HE.out, acc_bad (by decide)]; exact Sls.nil _⟩, set4_below HBB.out HW4.out _ _ _ _⟩
  have N7 : Hid (L5.length ≤ 8) := by show _ ≤ _; rw [HN5.out]; omega
  have j7 : ¬ (8 : Int) < (n5 : Int) := by omega
  have A11 := Arr.new w7 #[Value.int .i64 x4, .slice none 0 0, .string ⟨#[]⟩, .int .i64 0] 38 _ rfl _ 4 (dlC_at x4 (.slice none 0 0) ⟨#[]⟩ 0)
  have B8 := Bel.al (Below.refl w7.heap.size w7) (.cells #[.int .i64 x4, .slice none 0 0, .string ⟨#[]⟩, .int .i64 0] 38)
  go_wp2_with fail
  generalize w7.alloc (.cells #[.int .i64 x4, .slice none 0 0, .string ⟨#[]⟩, .int .i64 0] 38) = W8 at *
  obtain ⟨b11, hb11⟩ : ∃ b, w7.heap.size = b := ⟨_, rfl⟩
  have HB11 : Hid (w7.heap.size = b11) := hb11
  have H411 : b4 < b11 := by have := B7.size; omega
  have nA : b11 ≠ b4 := by omega
  have nB : b4 ≠ b11 := by omega
  have HW11 : Hid (w.heap.size ≤ b11) := by show _ ≤ _; have := HW4.out; omega
  have H1b : Hid (W1.heap.size ≤ b11) := by show _ ≤ _; have := B7.size; omega
  rw [hb11] at A11
  simp only [hb11]
  clear hb11
  obtain ⟨i9, hi9, hy0, hy1, hy2⟩ := info_parts Tryz.info9s
  have F5 : Hid (∀ (i : Nat) (r : Ke), L5[i]? = some r → ∃ g o, a5 = some ⟨g, o, none⟩ ∧ g < w7.heap.size ∧ C3 w7 g (o + i * 3) r) := by
    obtain ⟨a, c, e, f⟩ := HK5.out
    injection e with ea _ ec
    subst ea ec
    exact f
  go_loopw [12] (fun i wr => ∃ (j : Nat) (vc : Value), j ≤ n5 ∧ i = .int .i64 (j : Int) ∧ Arr wr b11 4 (DV x4 vc ⟨#[]⟩ 0) ∧ wr.ownsRow (b11 + 1) 9 1 vc j (((L5.take j).map (·.s)).map Value.string) ∧ Hid ((L5.take j).all (fun r => cookB r.s) = true) ∧ Below w7.heap.size w7 wr) (fun i _ => n5 - (RowKit.intOf i).toNat)
  case atStart => exact ⟨0, .slice none 0 0, by omega, rfl, A11, World.ownsRow_nil _ _ _ _, rfl, B8⟩
  case round =>
    clear A11 B8
    obtain ⟨j, vc, hj, rfl, hA, hO, hC, hB⟩ := hrel
    obtain ⟨ao, cv, rfl⟩ := own_frm hO
    have j0 : (0 : Int) ≤ (j : Int) := by omega
    have BW := Bel.call B7 hB
    by_cases hlt : j < n5
    · have j1 : (j : Int) < (n5 : Int) := by omega
      obtain ⟨r, hr⟩ : ∃ r, L5[j]? = some r := ⟨_, List.getElem?_eq_getElem (by rw [HN5.out]; exact hlt)⟩
      obtain ⟨g, oo, e5, lt5, r0, r1, r2⟩ := F5.out j r hr
      subst e5
      have rm := List.mem_of_getElem? hr
      have y2 := (hB.cell (p := ⟨g, oo + j * 3 + 2, none⟩) lt5).trans r2
      have CC := nCookie_any r.s (q5 r rm) wr
      have HTk : Hid (L5.take (j + 1) = L5.take j ++ [r]) := take_snoc' L5 j r hr
      have HBad : Hid (cookB r.s = false → (L5.all fun r => cookB r.s) = false) := by
        show _ → _
        intro h
        cases hq : L5.all fun r => cookB r.s
        · rfl
        · rw [List.all_eq_true.1 hq r rm] at h; cases h
      clear r0 r1 r2 hr rm
      have HCk : Hid (cookB r.s = cookB r.s) := rfl
      obtain ⟨s, hs⟩ : ∃ s, r.s = s := ⟨_, rfl⟩
      have HS : Hid (r.s = s) := hs
      rw [hs] at y2 CC HBad
      clear hs HCk
      cases hck : cookB s
      case false =>
        rw [hck] at CC
        have HBd : Hid ((L5.all fun r => cookB r.s) = false) := HBad.out hck
        clear HBad hck hA hO hC HTk
        go_wp2_with fail
        refine CC.mono ?_
        rintro e y1 ⟨rfl, rfl⟩
        clear CC
        have P4 := A4.to' BW
        have P6 := A6.to' BW
        have c0 := P6.cv 0 (by decide) (.int .i64 0) rfl
        have c1 := P6.cv 1 (by decide) (.slice none 0 0) rfl
        have c2 := P6.cv 2 (by decide) (.string ⟨#[]⟩) rfl
        have c3 := P6.cv 3 (by decide) (.int .i64 0) rfl
        have d0 := P4.cv 0 (by decide) (.int .i64 0) rfl
        have d1 := P4.cv 1 (by decide) (.slice none 0 0) rfl
        have d2 := P4.cv 2 (by decide) (.string ⟨#[]⟩) rfl
        have d3 := P4.cv 3 (by decide) (.int .i64 0) rfl
        have z0 := P4.z 0 (by decide)
        have z1 := P4.z 1 (by decide)
        have z2 := P4.z 2 (by decide)
        have z3 := P4.z 3 (by decide)
        have HP4 : Hid (Arr _ b4 4 _) := P4
        have HE : Hid (acX n2 U true 0 true true kz L5 L6 L7 b7 x7 = 12) := by show _ = _; unfold acX; rw [if_neg (fun q => q N1.out), if_neg (Int.not_le.2 N2.out), if_neg N3.out, if_neg (by decide), if_neg N5.out, if_neg N6.out, if_neg (Nat.not_lt.2 N7.out), if_pos HBd.out]
        have HBB : Hid (Below w.heap.size w _) := Bel.call hB0 BW
        clear P4 P6
        go_wp2_with fail
        exact bodyPost_ret (results_cellT rfl _ rfl (ld4 HP4.out _ _ _ _)) rfl ⟨⟨_, by rw [HE.out, acc_bad (by decide)]; rfl, by rw [HE.out, acc_bad (by decide)]; exact Sls.nil _⟩, set4_below HBB.out HW4.out _ _ _ _⟩
      rw [hck] at CC
      have HC2 : Hid ((L5.take (j + 1)).all (fun r => cookB r.s) = true) := by
        show _ = _
        rw [HTk.out, List.all_append, hC.out]
        simp only [List.all_cons, List.all_nil, Bool.and_true, Bool.true_and]
        rw [HS.out, hck]
      clear HBad hck hC
      go_wp2_with fail
      refine CC.mono ?_
      rintro e y1 ⟨rfl, rfl⟩
      clear CC
      have HO : Hid _ := hO
      have HA : Hid _ := hA
      have cc := hA.cv 1 (by omega) (.slice ao j cv) rfl
      have R1 := fun ds os => cell_regrown cc ds os
      have R2 := fun ds os => cell_regrown y2 ds os
      clear hO hA
      go_wp2_with fail
      refine wp_region_rel 8 (ckV b11 g oo n5 c5 (.slice ao j cv) j s) (by kernel_rfl) (by kernel_rfl) (ckV.st _ _ _ _ _ _ _ _) ?_ ?_
      · intro i o ρ W hi ho hW hP hS
        have ci : i = 0 ∨ i = 1 ∨ i = 2 ∨ i = 3 ∨ i = 4 ∨ i = 5 ∨ i = 6 ∨ i = 7 := by omega
        have AW := Arr.to' (n := 3) HA.out hW
        have q1 := AW.cv 1 (by omega) (.slice ao j cv) rfl
        have q2 := (hW.cell (p := ⟨g, oo + j * 3 + 2, none⟩) (Nat.lt_of_lt_of_le lt5 hB.size)).trans y2
        clear AW hW
        rcases ci with rfl | rfl | rfl | rfl | rfl | rfl | rfl | rfl <;> cases ho
        · have h' : ρ (.tmp 11) = .pointer (some ⟨b11, 0, none⟩) := hS 11 (by kernel_rfl)
          exact Stp.val (by simp [execOp, h', go_sem] <;> rfl) rfl
        · have h' : ρ (.tmp 82) = .pointer (some ⟨b11, 1, none⟩) := hS 82 (by kernel_rfl)
          exact Stp.val (by simp [execOp, h', go_sem, q1] <;> rfl) rfl
        · have h' : ρ (.tmp 10) = .slice (some ⟨g, oo, none⟩) n5 c5 := hS 10 (by kernel_rfl)
          exact Stp.val (by simp [execOp, h', go_sem] <;> rfl) rfl
        · have h' : ρ (.tmp 12) = .int .i64 (j : Int) := hS 12 (by kernel_rfl)
          exact Stp.val (by simp [execOp, h', go_sem] <;> rfl) rfl
        · have h1 : ρ (.tmp 84) = .slice (some ⟨g, oo, none⟩) n5 c5 := hS 84 (by kernel_rfl)
          have h2 : ρ (.tmp 85) = .int .i64 (j : Int) := hS 85 (by kernel_rfl)
          exact Stp.val (v := .pointer (some ⟨g, oo + j * 3, none⟩)) (by simp [execOp, h1, h2, go_sem, j0, j1] <;> first | rfl | omega) rfl
        · have h' : ρ (.tmp 86) = .pointer (some ⟨g, oo + j * 3, none⟩) := hS 86 (by kernel_rfl)
          exact Stp.val (v := .pointer (some ⟨g, oo + j * 3 + 2, none⟩)) (by simp [execOp, h', go_sem] <;> rfl) rfl
        · have h' : ρ (.tmp 87) = .pointer (some ⟨g, oo + j * 3 + 2, none⟩) := hS 87 (by kernel_rfl)
          exact Stp.val (by simp [execOp, h', go_sem, q2] <;> rfl) rfl
        · have h' : ρ (.tmp 88) = .string s := hS 88 (by kernel_rfl)
          exact Stp.new (w' := W.alloc (.cells #[.string s] 9)) (by simp [execOp, h', go_sem] <;> rfl) ((Below.refl _ W).alloc (Nat.le_refl _) _) ⟨W.heap.size, rfl, by simp, by have := news_new W [.string s] 9 0 (.string s) rfl; rwa [Addr.add_mid, Nat.zero_add] at this⟩
      intro X w9 hb hV
      have v1 : X 1 = .slice ao j cv := hV 1 (by omega)
      obtain ⟨qn, v7, qlt, qc⟩ : ∃ q, X 7 = .slice (some ⟨q, 0, none⟩) 1 1 ∧ q < w9.heap.size ∧ w9.cell? ⟨q, 0, none⟩ = some (.string s) := hV 7 (by omega)
      have v11 := hV 0 (by omega)
      simp only [puts, List.take_succ_cons, List.take_zero, List.drop_succ_cons, List.drop_zero, Act.put, List.setIfInBounds_toArray, List.set_cons_succ, List.set_cons_zero]
      rw [v1, v7]
      clear hV R1 R2 cc y2 BW v1 v7 v11
      have B9 := Bel.call hB hb
      have A9 := Arr.to' (n := 3) HA.out hb
      have O9 : Hid (w9.ownsRow (b11 + 1) 9 1 (.slice ao j cv) j (((L5.take j).map (·.s)).map Value.string)) := World.ownsRow.kept HO.out (gby hb) (by cases ao <;> simp [Value.ownBlock])
      have lt9 := Arr.lt (n := 3) A9
      have sb : b11 + 1 ≤ w9.heap.size := by omega
      clear HO HA hb hB
      go_wp2_with (at_builtin; refine stopAt ?_)
      unfold Stop
      refine wpList_append_own _ rfl _ _ 23 rfl (b11 + 1) 9 i9 (.string ⟨#[]⟩) 1 16 Tryz.underlying23 hi9 hy0 hy1 hy2 rfl (by decide) _ _ _ rfl O9.out ⟨qn, 0, none⟩ 1 1 [.string s] rfl rfl (one_news qc) (fun u hu => by simp at hu; rw [hu]; rfl) (by unfold maxLen; omega) (by omega) sb ?_
      intro v9 x9 ho9 hg9 hn9
      obtain ⟨ao9, cv9, rfl⟩ := own_frm ho9
      have B10 : Below w7.heap.size w7 x9 := B9.grown hg9 B9.size (fun q hq => by have := (O9.out.lt q hq).1; have := HB11.out; omega)
      have A10 := arr_far' (n := 3) A9 hg9 (fun e => by have := (O9.out.lt b11 e.symm).1; omega)
      have cc := A10.cv 1 (by decide) (.slice ao j cv) rfl
      have zc := A10.z 1 (by decide)
      have HA' : Hid _ := DV.set1 A10 (.slice ao9 (j + 1) cv9)
      have HO' : Hid (_) := ownsRow_setCell_below (a := ⟨b11, 1, none⟩) ho9 (Nat.lt_succ_self b11) (.slice ao9 (j + 1) cv9)
      have HB' : Hid _ := B10.setCell (p := ⟨b11, 1, none⟩) (by show w7.heap.size ≤ b11; have := HB11.out; omega) (.slice ao9 (j + 1) cv9)
      clear hg9 ho9 hn9 O9 sb B9 B10 A9 A10
      go_wp2_with fail
      refine ⟨⟨j + 1, .slice ao9 (j + 1) cv9, by omega, by go_num, HA'.out, ?_, HC2, HB'.out⟩, by simp [RowKit.intOf]; omega⟩
      rw [HTk.out, List.map_append, List.map_append]
      show World.ownsRow _ _ _ _ _ _ (_ ++ [Value.string r.s])
      rw [HS.out]
      exact HO'.out
    · have ej : j = n5 := by omega
      subst ej
      have hT : L5.take j = L5 := List.take_of_length_le (by rw [HN5.out]; omega)
      rw [hT] at hO hC
      have N8 : Hid ((L5.all fun r => cookB r.s) = true) := hC.out
      have HLn : Hid ((L5.map (·.s)).length = j) := by show _ = _; rw [List.length_map]; exact HN5.out
      have HO : Hid _ := hO
      have HA : Hid _ := hA
      have jn : ¬ (j : Int) < (j : Int) := by omega
      clear hT hC hO hA F5
      go_wp2_with fail
      refine (C6 _ (Bel.call hB0 BW)).mono ?_
      rintro e y6 ⟨⟨v6, rfl, K6⟩, b6y⟩
      clear C6
      have BY6 := Bel.call BW b6y
      have A11 := Arr.to' (n := 3) HA.out b6y
      have O11 := own_to' HO.out b6y
      have hv6 : ∃ a c, v6 = .slice a L6.length c := by obtain ⟨a, c, e, _⟩ := K6; exact ⟨a, c, e⟩
      obtain ⟨a6, c6, rfl⟩ := hv6
      obtain ⟨n6, hn6⟩ : ∃ n, L6.length = n := ⟨_, rfl⟩
      have HN6 : Hid (L6.length = n6) := hn6
      have HK6 : Hid (Kls y6 (.slice a6 L6.length c6) L6) := K6
      rw [hn6] at m6 ⊢
      obtain ⟨n7, hn7⟩ : ∃ n, L7.length = n := ⟨_, rfl⟩
      have HN7 : Hid (L7.length = n7) := hn7
      have C7' : ∀ W, Below w.heap.size w W → Calls Tryz.prog 57 #[vl, .int .i64 7] W fun e w' => (∃ a c, e = .returned (.slice a n7 c)) ∧ Below W.heap.size W w' := fun W h => (C7 W h).mono fun e w' ⟨⟨v, e1, k⟩, b⟩ => by
        obtain ⟨a, c, e2, _⟩ := k
        exact ⟨⟨a, c, by rw [e1, e2, hn7]⟩, b⟩
      rw [hn7] at m7
      clear hn6 K6 C7 hn7 HO HA b6y BW hB
      by_cases g6 : 1 < n6
      · have j6x : (1 : Int) < (n6 : Int) := by omega
        have P4 := A4.to' BY6
        have P6 := A6.to' BY6
        have c0 := P6.cv 0 (by decide) (.int .i64 0) rfl
        have c1 := P6.cv 1 (by decide) (.slice none 0 0) rfl
        have c2 := P6.cv 2 (by decide) (.string ⟨#[]⟩) rfl
        have c3 := P6.cv 3 (by decide) (.int .i64 0) rfl
        have d0 := P4.cv 0 (by decide) (.int .i64 0) rfl
        have d1 := P4.cv 1 (by decide) (.slice none 0 0) rfl
        have d2 := P4.cv 2 (by decide) (.string ⟨#[]⟩) rfl
        have d3 := P4.cv 3 (by decide) (.int .i64 0) rfl
        have z0 := P4.z 0 (by decide)
        have z1 := P4.z 1 (by decide)
        have z2 := P4.z 2 (by decide)
        have z3 := P4.z 3 (by decide)
        have HP4 : Hid (Arr _ b4 4 _) := P4
        have HE : Hid (acX n2 U true 0 true true kz L5 L6 L7 b7 x7 = 24) := by show _ = _; unfold acX; rw [if_neg (fun q => q N1.out), if_neg (Int.not_le.2 N2.out), if_neg N3.out, if_neg (by decide), if_neg N5.out, if_neg N6.out, if_neg (Nat.not_lt.2 N7.out), if_neg (by rw [N8.out]; decide), if_pos (.inl (by rw [HN6.out]; exact g6))]
        have HBB : Hid (Below w.heap.size w _) := Bel.call hB0 BY6
        clear P4 P6
        go_wp2_with fail
        exact bodyPost_ret (results_cellT rfl _ rfl (ld4 HP4.out _ _ _ _)) rfl ⟨⟨_, by rw [HE.out, acc_bad (by decide)]; rfl, by rw [HE.out, acc_bad (by decide)]; exact Sls.nil _⟩, set4_below HBB.out HW4.out _ _ _ _⟩
      have j6x : ¬ (1 : Int) < (n6 : Int) := by omega
      go_wp2_with fail
      refine (C7' _ (Bel.call hB0 BY6)).mono ?_
      rintro e y7 ⟨⟨a7, c7, rfl⟩, b7y⟩
      have BY7 := Bel.call BY6 b7y
      replace A11 := Arr.to' (n := 3) A11 b7y
      replace O11 := own_to' O11 b7y
      have HK6' : Hid (Kls y7 (.slice a6 L6.length c6) L6) := HK6.out.to b7y
      clear b7y BY6 HK6
      by_cases g7 : 1 < n7
      · have j7x : (1 : Int) < (n7 : Int) := by omega
        have P4 := A4.to' BY7
        have P6 := A6.to' BY7
        have c0 := P6.cv 0 (by decide) (.int .i64 0) rfl
        have c1 := P6.cv 1 (by decide) (.slice none 0 0) rfl
        have c2 := P6.cv 2 (by decide) (.string ⟨#[]⟩) rfl
        have c3 := P6.cv 3 (by decide) (.int .i64 0) rfl
        have d0 := P4.cv 0 (by decide) (.int .i64 0) rfl
        have d1 := P4.cv 1 (by decide) (.slice none 0 0) rfl
        have d2 := P4.cv 2 (by decide) (.string ⟨#[]⟩) rfl
        have d3 := P4.cv 3 (by decide) (.int .i64 0) rfl
        have z0 := P4.z 0 (by decide)
        have z1 := P4.z 1 (by decide)
        have z2 := P4.z 2 (by decide)
        have z3 := P4.z 3 (by decide)
        have HP4 : Hid (Arr _ b4 4 _) := P4
        have HE : Hid (acX n2 U true 0 true true kz L5 L6 L7 b7 x7 = 24) := by show _ = _; unfold acX; rw [if_neg (fun q => q N1.out), if_neg (Int.not_le.2 N2.out), if_neg N3.out, if_neg (by decide), if_neg N5.out, if_neg N6.out, if_neg (Nat.not_lt.2 N7.out), if_neg (by rw [N8.out]; decide), if_pos (.inr (by rw [HN7.out]; exact g7))]
        have HBB : Hid (Below w.heap.size w _) := Bel.call hB0 BY7
        clear P4 P6
        go_wp2_with fail
        exact bodyPost_ret (results_cellT rfl _ rfl (ld4 HP4.out _ _ _ _)) rfl ⟨⟨_, by rw [HE.out, acc_bad (by decide)]; rfl, by rw [HE.out, acc_bad (by decide)]; exact Sls.nil _⟩, set4_below HBB.out HW4.out _ _ _ _⟩
      have j7x : ¬ (1 : Int) < (n7 : Int) := by omega
      have N9 : Hid (L6.length ≤ 1 ∧ L7.length ≤ 1) := ⟨by rw [HN6.out]; omega, by rw [HN7.out]; omega⟩
      by_cases h6 : n6 = 1
      · have j6y : (n6 : Int) = 1 := by omega
        obtain ⟨r6, hr6⟩ := one_of L6 (by rw [HN6.out]; exact h6)
        have HD6 : Hid (hdS L6 = r6.s) := by show _ = _; rw [hr6]; rfl
        have HH6 : Hid ((if L6.length = 1 then hdS L6 else ⟨#[]⟩) = r6.s) := by show _ = _; rw [if_pos (by rw [HN6.out]; exact h6)]; exact HD6.out
        have hq6 := q6 r6 (by rw [hr6]; exact List.mem_singleton.2 rfl)
        obtain ⟨a6', c6', e6, f6⟩ := HK6'.out
        injection e6 with ea _ ec
        subst ea ec
        obtain ⟨g6', o6, e6, lt6, t0, t1, t2⟩ := f6 0 r6 (by rw [hr6]; rfl)
        subst e6
        simp only [Nat.zero_mul, Nat.add_zero] at t0 t1 t2
        clear t0 t1 f6 hr6 HK6'
        obtain ⟨s6, hs6⟩ : ∃ s, r6.s = s := ⟨_, rfl⟩
        rw [hs6] at t2 HD6 HH6 hq6
        clear hs6
        have CO := nhost_any s6 hq6 y7
        cases ho : hostB s6
        case false =>
          rw [ho] at CO
          have HOB : Hid (hostB (hdS L6) = false) := by show _ = _; rw [HD6.out]; exact ho
          clear ho
          go_wp2_with fail
          refine CO.mono ?_
          rintro e z8 ⟨rfl, rfl⟩
          clear CO
          have P4 := A4.to' BY7
          have P6 := A6.to' BY7
          have c0 := P6.cv 0 (by decide) (.int .i64 0) rfl
          have c1 := P6.cv 1 (by decide) (.slice none 0 0) rfl
          have c2 := P6.cv 2 (by decide) (.string ⟨#[]⟩) rfl
          have c3 := P6.cv 3 (by decide) (.int .i64 0) rfl
          have d0 := P4.cv 0 (by decide) (.int .i64 0) rfl
          have d1 := P4.cv 1 (by decide) (.slice none 0 0) rfl
          have d2 := P4.cv 2 (by decide) (.string ⟨#[]⟩) rfl
          have d3 := P4.cv 3 (by decide) (.int .i64 0) rfl
          have z0 := P4.z 0 (by decide)
          have z1 := P4.z 1 (by decide)
          have z2 := P4.z 2 (by decide)
          have z3 := P4.z 3 (by decide)
          have HP4 : Hid (Arr _ b4 4 _) := P4
          have HE : Hid (acX n2 U true 0 true true kz L5 L6 L7 b7 x7 = 20) := by show _ = _; unfold acX; rw [if_neg (fun q => q N1.out), if_neg (Int.not_le.2 N2.out), if_neg N3.out, if_neg (by decide), if_neg N5.out, if_neg N6.out, if_neg (Nat.not_lt.2 N7.out), if_neg (by rw [N8.out]; decide), if_neg (fun q => by have := N9.out; omega), if_pos ⟨by rw [HN6.out]; exact h6, HOB.out⟩]
          have HBB : Hid (Below w.heap.size w _) := Bel.call hB0 BY7
          clear P4 P6
          go_wp2_with fail
          exact bodyPost_ret (results_cellT rfl _ rfl (ld4 HP4.out _ _ _ _)) rfl ⟨⟨_, by rw [HE.out, acc_bad (by decide)]; rfl, by rw [HE.out, acc_bad (by decide)]; exact Sls.nil _⟩, set4_below HBB.out HW4.out _ _ _ _⟩
        rw [ho] at CO
        have HOB : Hid (hostB (hdS L6) = true) := by show _ = _; rw [HD6.out]; exact ho
        clear ho
        have AZ := DV.set2 A11 s6
        have OZ := ownsRow_setCell_below (a := ⟨b11, 2, none⟩) O11 (Nat.lt_succ_self b11) (.string s6)
        have BZ : Below W1.heap.size W1 (y7.setCell ⟨b11, 2, none⟩ (.string s6)) := BY7.setCell (p := ⟨b11, 2, none⟩) H1b.out _
        have c6x := A11.cv 2 (by decide) (.string ⟨#[]⟩) rfl
        have z6x := A11.z 2 (by decide)
        go_wp2_with fail
        refine CO.mono ?_
        rintro e z8 ⟨rfl, rfl⟩
        clear CO
        go_wp2_with fail
        generalize z8.setCell ⟨b11, 2, none⟩ (.string s6) = Z0 at *
        clear c6x z6x A11 O11
        refine (C7' _ (Bel.call hB0 BZ)).mono ?_
        rintro e Z ⟨⟨a8, c8, rfl⟩, bZ⟩
        replace AZ := Arr.to' (n := 3) AZ bZ
        replace OZ := own_to' OZ bZ
        replace BZ := Bel.call BZ bZ
        clear C7' bZ
        by_cases h7 : n7 = 1
        · have j7y : (n7 : Int) = 1 := by omega
          go_wp2_with fail
          refine (CS _ (Bel.call hB0 BZ)).mono ?_
          rintro e z9 ⟨rfl, bz9⟩
          have BZ9 := Bel.call BZ bz9
          replace AZ := Arr.to' (n := 3) AZ bz9
          replace OZ := own_to' OZ bz9
          clear CS bz9 BZ
          cases b7
          case false =>
            have P4 := A4.to' BZ9
            have P6 := A6.to' BZ9
            have c0 := P6.cv 0 (by decide) (.int .i64 0) rfl
            have c1 := P6.cv 1 (by decide) (.slice none 0 0) rfl
            have c2 := P6.cv 2 (by decide) (.string ⟨#[]⟩) rfl
            have c3 := P6.cv 3 (by decide) (.int .i64 0) rfl
            have d0 := P4.cv 0 (by decide) (.int .i64 0) rfl
            have d1 := P4.cv 1 (by decide) (.slice none 0 0) rfl
            have d2 := P4.cv 2 (by decide) (.string ⟨#[]⟩) rfl
            have d3 := P4.cv 3 (by decide) (.int .i64 0) rfl
            have z0 := P4.z 0 (by decide)
            have z1 := P4.z 1 (by decide)
            have z2 := P4.z 2 (by decide)
            have z3 := P4.z 3 (by decide)
            have HP4 : Hid (Arr _ b4 4 _) := P4
            have HE : Hid (acX n2 U true 0 true true kz L5 L6 L7 false x7 = 13) := by show _ = _; unfold acX; rw [if_neg (fun q => q N1.out), if_neg (Int.not_le.2 N2.out), if_neg N3.out, if_neg (by decide), if_neg N5.out, if_neg N6.out, if_neg (Nat.not_lt.2 N7.out), if_neg (by rw [N8.out]; decide), if_neg (fun q => by have := N9.out; omega), if_neg (fun q => by rw [HOB.out] at q; cases q.2), if_pos ⟨by rw [HN7.out]; exact h7, .inl rfl⟩]
            have HBB : Hid (Below w.heap.size w _) := Bel.call hB0 BZ9
            clear P4 P6
            go_wp2_with fail
            exact bodyPost_ret (results_cellT rfl _ rfl (ld4 HP4.out _ _ _ _)) rfl ⟨⟨_, by rw [HE.out, acc_bad (by decide)]; rfl, by rw [HE.out, acc_bad (by decide)]; exact Sls.nil _⟩, set4_below HBB.out HW4.out _ _ _ _⟩
          have CP := nport_any x7 z9
          cases hp : portB x7
          case false =>
            rw [hp] at CP
            have HPB : Hid (portB x7 = false) := hp
            clear hp
            go_wp2_with fail
            refine CP.mono ?_
            rintro e z8 ⟨rfl, rfl⟩
            clear CP
            have P4 := A4.to' BZ9
            have P6 := A6.to' BZ9
            have c0 := P6.cv 0 (by decide) (.int .i64 0) rfl
            have c1 := P6.cv 1 (by decide) (.slice none 0 0) rfl
            have c2 := P6.cv 2 (by decide) (.string ⟨#[]⟩) rfl
            have c3 := P6.cv 3 (by decide) (.int .i64 0) rfl
            have d0 := P4.cv 0 (by decide) (.int .i64 0) rfl
            have d1 := P4.cv 1 (by decide) (.slice none 0 0) rfl
            have d2 := P4.cv 2 (by decide) (.string ⟨#[]⟩) rfl
            have d3 := P4.cv 3 (by decide) (.int .i64 0) rfl
            have z0 := P4.z 0 (by decide)
            have z1 := P4.z 1 (by decide)
            have z2 := P4.z 2 (by decide)
            have z3 := P4.z 3 (by decide)
            have HP4 : Hid (Arr _ b4 4 _) := P4
            have HE : Hid (acX n2 U true 0 true true kz L5 L6 L7 true x7 = 13) := by show _ = _; unfold acX; rw [if_neg (fun q => q N1.out), if_neg (Int.not_le.2 N2.out), if_neg N3.out, if_neg (by decide), if_neg N5.out, if_neg N6.out, if_neg (Nat.not_lt.2 N7.out), if_neg (by rw [N8.out]; decide), if_neg (fun q => by have := N9.out; omega), if_neg (fun q => by rw [HOB.out] at q; cases q.2), if_pos ⟨by rw [HN7.out]; exact h7, .inr HPB.out⟩]
            have HBB : Hid (Below w.heap.size w _) := Bel.call hB0 BZ9
            clear P4 P6
            go_wp2_with fail
            exact bodyPost_ret (results_cellT rfl _ rfl (ld4 HP4.out _ _ _ _)) rfl ⟨⟨_, by rw [HE.out, acc_bad (by decide)]; rfl, by rw [HE.out, acc_bad (by decide)]; exact Sls.nil _⟩, set4_below HBB.out HW4.out _ _ _ _⟩
          rw [hp] at CP
          have HPB : Hid (portB x7 = true) := hp
          clear hp
          go_wp2_with fail
          refine CP.mono ?_
          rintro e z8 ⟨rfl, rfl⟩
          clear CP
          have zg3 := AZ.z 3 (by decide)
          have HAZ : Hid _ := DV.set3 AZ x7
          have HF : Hid (acX n2 U true 0 true true kz L5 L6 L7 true x7 = 0) := by show _ = _; unfold acX; rw [if_neg (fun q => q N1.out), if_neg (Int.not_le.2 N2.out), if_neg N3.out, if_neg (by decide), if_neg N5.out, if_neg N6.out, if_neg (Nat.not_lt.2 N7.out), if_neg (by rw [N8.out]; decide), if_neg (fun q => by have := N9.out; omega), if_neg (fun q => by rw [HOB.out] at q; cases q.2), if_neg (fun q => by rcases q.2 with c | c <;> first | cases c | (rw [HPB.out] at c; cases c))]
          have g0 := AZ.cv 0 (by decide) (.int .i64 x4) rfl
          have g1 := AZ.cv 1 (by decide) (.slice ao j cv) rfl
          have g2 := AZ.cv 2 (by decide) (.string s6) rfl
          have g3 := AZ.cv 3 (by decide) (.int .i64 0) rfl
          have P4 := A4.to' BZ9
          have P6 := A6.to' BZ9
          have c0 := P6.cv 0 (by decide) (.int .i64 0) rfl
          have c1 := P6.cv 1 (by decide) (.slice none 0 0) rfl
          have c2 := P6.cv 2 (by decide) (.string ⟨#[]⟩) rfl
          have c3 := P6.cv 3 (by decide) (.int .i64 0) rfl
          have d0 := P4.cv 0 (by decide) (.int .i64 0) rfl
          have d1 := P4.cv 1 (by decide) (.slice none 0 0) rfl
          have d2 := P4.cv 2 (by decide) (.string ⟨#[]⟩) rfl
          have d3 := P4.cv 3 (by decide) (.int .i64 0) rfl
          have z0 := P4.z 0 (by decide)
          have z1 := P4.z 1 (by decide)
          have z2 := P4.z 2 (by decide)
          have z3 := P4.z 3 (by decide)
          have HP4 : Hid (Arr _ b4 4 _) := P4
          have HBB : Hid (Below w.heap.size w _) := Bel.call hB0 BZ9
          have HOO : Hid _ := OZ
          clear P4 P6
          go_wp2_with fail
          refine bodyPost_ret (results_cellT rfl _ rfl (ld4 (Arr.other HP4.out nA _) _ _ _ _)) rfl ⟨⟨.slice ao j cv, ?_, ?_⟩, set4_below (HBB.out.setCell (p := ⟨b11, 3, none⟩) HW11.out _) HW4.out _ _ _ _⟩
          · rw [HF.out]; unfold acD; rw [if_pos rfl]; unfold dlV; rw [HH6.out, if_pos (by rw [HN7.out]; exact h7)]; rfl
          · rw [HF.out]; unfold acD; rw [if_pos rfl]; exact Sls.own (b := b11 + 1) (by rw [HLn.out]; exact own_set4 (ownsRow_setCell_below (a := ⟨b11, 3, none⟩) HOO.out (Nat.lt_succ_self b11) _) (Nat.lt_succ_of_lt H411) _ _ _ _)
        · have j7y : ((n7 : Int) == 1) = false := by simpa using (show ¬ (n7 : Int) = 1 by omega)
          have HF : Hid (acX n2 U true 0 true true kz L5 L6 L7 b7 x7 = 0) := by show _ = _; unfold acX; rw [if_neg (fun q => q N1.out), if_neg (Int.not_le.2 N2.out), if_neg N3.out, if_neg (by decide), if_neg N5.out, if_neg N6.out, if_neg (Nat.not_lt.2 N7.out), if_neg (by rw [N8.out]; decide), if_neg (fun q => by have := N9.out; omega), if_neg (fun q => by rw [HOB.out] at q; cases q.2), if_neg (fun q => h7 (by rw [← HN7.out]; exact q.1))]
          have g0 := AZ.cv 0 (by decide) (.int .i64 x4) rfl
          have g1 := AZ.cv 1 (by decide) (.slice ao j cv) rfl
          have g2 := AZ.cv 2 (by decide) (.string s6) rfl
          have g3 := AZ.cv 3 (by decide) (.int .i64 0) rfl
          have P4 := A4.to' BZ
          have P6 := A6.to' BZ
          have c0 := P6.cv 0 (by decide) (.int .i64 0) rfl
          have c1 := P6.cv 1 (by decide) (.slice none 0 0) rfl
          have c2 := P6.cv 2 (by decide) (.string ⟨#[]⟩) rfl
          have c3 := P6.cv 3 (by decide) (.int .i64 0) rfl
          have d0 := P4.cv 0 (by decide) (.int .i64 0) rfl
          have d1 := P4.cv 1 (by decide) (.slice none 0 0) rfl
          have d2 := P4.cv 2 (by decide) (.string ⟨#[]⟩) rfl
          have d3 := P4.cv 3 (by decide) (.int .i64 0) rfl
          have z0 := P4.z 0 (by decide)
          have z1 := P4.z 1 (by decide)
          have z2 := P4.z 2 (by decide)
          have z3 := P4.z 3 (by decide)
          have HP4 : Hid (Arr _ b4 4 _) := P4
          have HBB : Hid (Below w.heap.size w _) := Bel.call hB0 BZ
          have HOO : Hid _ := OZ
          clear P4 P6
          go_wp2_with fail
          refine bodyPost_ret (results_cellT rfl _ rfl (ld4 HP4.out _ _ _ _)) rfl ⟨⟨.slice ao j cv, ?_, ?_⟩, set4_below HBB.out HW4.out _ _ _ _⟩
          · rw [HF.out]; unfold acD; rw [if_pos rfl]; unfold dlV; rw [HH6.out, if_neg (fun q => h7 (by rw [← HN7.out]; exact q))]; rfl
          · rw [HF.out]; unfold acD; rw [if_pos rfl]; exact Sls.own (b := b11 + 1) (by rw [HLn.out]; exact own_set4 HOO.out (Nat.lt_succ_of_lt H411) _ _ _ _)
      · have j6y : ((n6 : Int) == 1) = false := by simpa using (show ¬ (n6 : Int) = 1 by omega)
        have HH6 : Hid ((if L6.length = 1 then hdS L6 else ⟨#[]⟩) = (⟨#[]⟩ : ByteArray)) := if_neg (fun q => h6 (by rw [← HN6.out]; exact q))
        have AZ := A11
        have OZ := O11
        have BZ := BY7
        clear A11 O11 BY7
        go_wp2_with fail
        refine (C7' _ (Bel.call hB0 BZ)).mono ?_
        rintro e Z ⟨⟨a8, c8, rfl⟩, bZ⟩
        replace AZ := Arr.to' (n := 3) AZ bZ
        replace OZ := own_to' OZ bZ
        replace BZ := Bel.call BZ bZ
        clear C7' bZ
        by_cases h7 : n7 = 1
        · have j7y : (n7 : Int) = 1 := by omega
          go_wp2_with fail
          refine (CS _ (Bel.call hB0 BZ)).mono ?_
          rintro e z9 ⟨rfl, bz9⟩
          have BZ9 := Bel.call BZ bz9
          replace AZ := Arr.to' (n := 3) AZ bz9
          replace OZ := own_to' OZ bz9
          clear CS bz9 BZ
          cases b7
          case false =>
            have P4 := A4.to' BZ9
            have P6 := A6.to' BZ9
            have c0 := P6.cv 0 (by decide) (.int .i64 0) rfl
            have c1 := P6.cv 1 (by decide) (.slice none 0 0) rfl
            have c2 := P6.cv 2 (by decide) (.string ⟨#[]⟩) rfl
            have c3 := P6.cv 3 (by decide) (.int .i64 0) rfl
            have d0 := P4.cv 0 (by decide) (.int .i64 0) rfl
            have d1 := P4.cv 1 (by decide) (.slice none 0 0) rfl
            have d2 := P4.cv 2 (by decide) (.string ⟨#[]⟩) rfl
            have d3 := P4.cv 3 (by decide) (.int .i64 0) rfl
            have z0 := P4.z 0 (by decide)
            have z1 := P4.z 1 (by decide)
            have z2 := P4.z 2 (by decide)
            have z3 := P4.z 3 (by decide)
            have HP4 : Hid (Arr _ b4 4 _) := P4
            have HE : Hid (acX n2 U true 0 true true kz L5 L6 L7 false x7 = 13) := by show _ = _; unfold acX; rw [if_neg (fun q => q N1.out), if_neg (Int.not_le.2 N2.out), if_neg N3.out, if_neg (by decide), if_neg N5.out, if_neg N6.out, if_neg (Nat.not_lt.2 N7.out), if_neg (by rw [N8.out]; decide), if_neg (fun q => by have := N9.out; omega), if_neg (fun q => h6 (by rw [← HN6.out]; exact q.1)), if_pos ⟨by rw [HN7.out]; exact h7, .inl rfl⟩]
            have HBB : Hid (Below w.heap.size w _) := Bel.call hB0 BZ9
            clear P4 P6
            go_wp2_with fail
            exact bodyPost_ret (results_cellT rfl _ rfl (ld4 HP4.out _ _ _ _)) rfl ⟨⟨_, by rw [HE.out, acc_bad (by decide)]; rfl, by rw [HE.out, acc_bad (by decide)]; exact Sls.nil _⟩, set4_below HBB.out HW4.out _ _ _ _⟩
          have CP := nport_any x7 z9
          cases hp : portB x7
          case false =>
            rw [hp] at CP
            have HPB : Hid (portB x7 = false) := hp
            clear hp
            go_wp2_with fail
            refine CP.mono ?_
            rintro e z8 ⟨rfl, rfl⟩
            clear CP
            have P4 := A4.to' BZ9
            have P6 := A6.to' BZ9
            have c0 := P6.cv 0 (by decide) (.int .i64 0) rfl
            have c1 := P6.cv 1 (by decide) (.slice none 0 0) rfl
            have c2 := P6.cv 2 (by decide) (.string ⟨#[]⟩) rfl
            have c3 := P6.cv 3 (by decide) (.int .i64 0) rfl
            have d0 := P4.cv 0 (by decide) (.int .i64 0) rfl
            have d1 := P4.cv 1 (by decide) (.slice none 0 0) rfl
            have d2 := P4.cv 2 (by decide) (.string ⟨#[]⟩) rfl
            have d3 := P4.cv 3 (by decide) (.int .i64 0) rfl
            have z0 := P4.z 0 (by decide)
            have z1 := P4.z 1 (by decide)
            have z2 := P4.z 2 (by decide)
            have z3 := P4.z 3 (by decide)
            have HP4 : Hid (Arr _ b4 4 _) := P4
            have HE : Hid (acX n2 U true 0 true true kz L5 L6 L7 true x7 = 13) := by show _ = _; unfold acX; rw [if_neg (fun q => q N1.out), if_neg (Int.not_le.2 N2.out), if_neg N3.out, if_neg (by decide), if_neg N5.out, if_neg N6.out, if_neg (Nat.not_lt.2 N7.out), if_neg (by rw [N8.out]; decide), if_neg (fun q => by have := N9.out; omega), if_neg (fun q => h6 (by rw [← HN6.out]; exact q.1)), if_pos ⟨by rw [HN7.out]; exact h7, .inr HPB.out⟩]
            have HBB : Hid (Below w.heap.size w _) := Bel.call hB0 BZ9
            clear P4 P6
            go_wp2_with fail
            exact bodyPost_ret (results_cellT rfl _ rfl (ld4 HP4.out _ _ _ _)) rfl ⟨⟨_, by rw [HE.out, acc_bad (by decide)]; rfl, by rw [HE.out, acc_bad (by decide)]; exact Sls.nil _⟩, set4_below HBB.out HW4.out _ _ _ _⟩
          rw [hp] at CP
          have HPB : Hid (portB x7 = true) := hp
          clear hp
          go_wp2_with fail
          refine CP.mono ?_
          rintro e z8 ⟨rfl, rfl⟩
          clear CP
          have zg3 := AZ.z 3 (by decide)
          have HAZ : Hid _ := DV.set3 AZ x7
          have HF : Hid (acX n2 U true 0 true true kz L5 L6 L7 true x7 = 0) := by show _ = _; unfold acX; rw [if_neg (fun q => q N1.out), if_neg (Int.not_le.2 N2.out), if_neg N3.out, if_neg (by decide), if_neg N5.out, if_neg N6.out, if_neg (Nat.not_lt.2 N7.out), if_neg (by rw [N8.out]; decide), if_neg (fun q => by have := N9.out; omega), if_neg (fun q => h6 (by rw [← HN6.out]; exact q.1)), if_neg (fun q => by rcases q.2 with c | c <;> first | cases c | (rw [HPB.out] at c; cases c))]
          have g0 := AZ.cv 0 (by decide) (.int .i64 x4) rfl
          have g1 := AZ.cv 1 (by decide) (.slice ao j cv) rfl
          have g2 := AZ.cv 2 (by decide) (.string ⟨#[]⟩) rfl
          have g3 := AZ.cv 3 (by decide) (.int .i64 0) rfl
          have P4 := A4.to' BZ9
          have P6 := A6.to' BZ9
          have c0 := P6.cv 0 (by decide) (.int .i64 0) rfl
          have c1 := P6.cv 1 (by decide) (.slice none 0 0) rfl
          have c2 := P6.cv 2 (by decide) (.string ⟨#[]⟩) rfl
          have c3 := P6.cv 3 (by decide) (.int .i64 0) rfl
          have d0 := P4.cv 0 (by decide) (.int .i64 0) rfl
          have d1 := P4.cv 1 (by decide) (.slice none 0 0) rfl
          have d2 := P4.cv 2 (by decide) (.string ⟨#[]⟩) rfl
          have d3 := P4.cv 3 (by decide) (.int .i64 0) rfl
          have z0 := P4.z 0 (by decide)
          have z1 := P4.z 1 (by decide)
          have z2 := P4.z 2 (by decide)
          have z3 := P4.z 3 (by decide)
          have HP4 : Hid (Arr _ b4 4 _) := P4
          have HBB : Hid (Below w.heap.size w _) := Bel.call hB0 BZ9
          have HOO : Hid _ := OZ
          clear P4 P6
          go_wp2_with fail
          refine bodyPost_ret (results_cellT rfl _ rfl (ld4 (Arr.other HP4.out nA _) _ _ _ _)) rfl ⟨⟨.slice ao j cv, ?_, ?_⟩, set4_below (HBB.out.setCell (p := ⟨b11, 3, none⟩) HW11.out _) HW4.out _ _ _ _⟩
          · rw [HF.out]; unfold acD; rw [if_pos rfl]; unfold dlV; rw [HH6.out, if_pos (by rw [HN7.out]; exact h7)]; rfl
          · rw [HF.out]; unfold acD; rw [if_pos rfl]; exact Sls.own (b := b11 + 1) (by rw [HLn.out]; exact own_set4 (ownsRow_setCell_below (a := ⟨b11, 3, none⟩) HOO.out (Nat.lt_succ_self b11) _) (Nat.lt_succ_of_lt H411) _ _ _ _)
        · have j7y : ((n7 : Int) == 1) = false := by simpa using (show ¬ (n7 : Int) = 1 by omega)
          have HF : Hid (acX n2 U true 0 true true kz L5 L6 L7 b7 x7 = 0) := by show _ = _; unfold acX; rw [if_neg (fun q => q N1.out), if_neg (Int.not_le.2 N2.out), if_neg N3.out, if_neg (by decide), if_neg N5.out, if_neg N6.out, if_neg (Nat.not_lt.2 N7.out), if_neg (by rw [N8.out]; decide), if_neg (fun q => by have := N9.out; omega), if_neg (fun q => h6 (by rw [← HN6.out]; exact q.1)), if_neg (fun q => h7 (by rw [← HN7.out]; exact q.1))]
          have g0 := AZ.cv 0 (by decide) (.int .i64 x4) rfl
          have g1 := AZ.cv 1 (by decide) (.slice ao j cv) rfl
          have g2 := AZ.cv 2 (by decide) (.string ⟨#[]⟩) rfl
          have g3 := AZ.cv 3 (by decide) (.int .i64 0) rfl
          have P4 := A4.to' BZ
          have P6 := A6.to' BZ
          have c0 := P6.cv 0 (by decide) (.int .i64 0) rfl
          have c1 := P6.cv 1 (by decide) (.slice none 0 0) rfl
          have c2 := P6.cv 2 (by decide) (.string ⟨#[]⟩) rfl
          have c3 := P6.cv 3 (by decide) (.int .i64 0) rfl
          have d0 := P4.cv 0 (by decide) (.int .i64 0) rfl
          have d1 := P4.cv 1 (by decide) (.slice none 0 0) rfl
          have d2 := P4.cv 2 (by decide) (.string ⟨#[]⟩) rfl
          have d3 := P4.cv 3 (by decide) (.int .i64 0) rfl
          have z0 := P4.z 0 (by decide)
          have z1 := P4.z 1 (by decide)
          have z2 := P4.z 2 (by decide)
          have z3 := P4.z 3 (by decide)
          have HP4 : Hid (Arr _ b4 4 _) := P4
          have HBB : Hid (Below w.heap.size w _) := Bel.call hB0 BZ
          have HOO : Hid _ := OZ
          clear P4 P6
          go_wp2_with fail
          refine bodyPost_ret (results_cellT rfl _ rfl (ld4 HP4.out _ _ _ _)) rfl ⟨⟨.slice ao j cv, ?_, ?_⟩, set4_below HBB.out HW4.out _ _ _ _⟩
          · rw [HF.out]; unfold acD; rw [if_pos rfl]; unfold dlV; rw [HH6.out, if_neg (fun q => h7 (by rw [← HN7.out]; exact q))]; rfl
          · rw [HF.out]; unfold acD; rw [if_pos rfl]; exact Sls.own (b := b11 + 1) (by rw [HLn.out]; exact own_set4 HOO.out (Nat.lt_succ_of_lt H411) _ _ _ _)
end Go.Proofs.YtbhmbdkijpocmaaGreatDoor
