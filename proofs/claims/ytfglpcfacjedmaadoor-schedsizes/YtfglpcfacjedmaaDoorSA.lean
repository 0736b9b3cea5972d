/- sched's small functions: sized, zeros, earlySecret, derived, labelled, makerBehind. -/
import Derived.Test.YtfglpcfacjedmaaDoorH8
set_option linter.all false
set_option maxRecDepth 100000
namespace Go.Proofs.YtfglpcfacjedmaaDoor
open Go.RowKit Go.Sort
/-- Have the first n texts 32 bytes each? -/
def szB (g : Nat → ByteArray) (n : Nat) : Bool := (List.range n).all fun j => decide ((g j).size = 32)
theorem szB_yes {g : Nat → ByteArray} {n : Nat} (h : ∀ j, j < n → (g j).size = 32) : szB g n = true := by
  unfold szB
  rw [List.all_eq_true]
  intro j hj
  simpa using h j (List.mem_range.1 hj)
theorem szB_no {g : Nat → ByteArray} {n k : Nat} (hk : k < n) (h : ¬ (g k).size = 32) : szB g n = false := by
  unfold szB
  rw [List.all_eq_false]
  exact ⟨k, List.mem_range.2 hk, by simpa using h⟩
set_option maxHeartbeats 1000000 in
theorem sized_core (g : Nat → ByteArray) (n b : Nat) (hn : n ≤ 100) (r : Bool) (hr : r = szB g n) (hg : ∀ j, j < n → (g j).size ≤ maxLen) (w : World) (hA : Arr w b n (fun j => .string (g j))) :
    Calls Tryd.prog 17 #[.slice (some ⟨b, 0, none⟩) n n] w fun e w' => e = .returned (.bool r) ∧ w' = w := by
  go_enter Tryd.func17, Tryd.ntmps17
  go_wp2_with fail
  go_loopw [7] (fun i wr => ∃ k : Nat, k ≤ n ∧ i = .int .i64 k ∧ wr = w ∧ ∀ j, j < k → (g j).size = 32) (fun i _ => n - (intOf i).toNat)
  case atStart => exact ⟨0, by omega, rfl, rfl, fun j hj => absurd hj (by omega)⟩
  case round =>
    obtain ⟨k, hk, rfl, rfl, hs⟩ := hrel
    have k0 : (0 : Int) ≤ (k : Int) := by omega
    have n100 : (n : Int) ≤ 100 := by omega
    by_cases hlt : k < n
    · have k1 : (k : Int) < (n : Int) := by omega
      have c := hA.c k hlt
      have m := hg k hlt
      unfold maxLen at m
      by_cases h5 : (g k).size = 32
      · have s5 : ((g k).size : Int) = 32 := by omega
        have HS : Hid (∀ j, j < k + 1 → (g j).size = 32) := fun j hj => by
          by_cases e : j = k
          · rw [e]; exact h5
          · exact hs j (by omega)
        clear hs hg hA hr h5
        go_wp2_with fail
        exact ⟨⟨k + 1, by omega, by go_num, trivial, HS.out⟩, by simp [intOf]; omega⟩
      · have s5 : ¬ ((g k).size : Int) = 32 := by omega
        have e := szB_no hlt h5
        rw [e] at hr
        subst hr
        clear hs hg hA h5
        go_wp2_with fail
        go_ret
        exact ⟨rfl, rfl⟩
    · have k1 : ¬ (k : Int) < (n : Int) := by omega
      have e := szB_yes (g := g) (n := n) (fun j hj => hs j (by omega))
      rw [e] at hr
      subst hr
      clear hs hg hA
      go_wp2_with fail
      go_ret
      exact ⟨rfl, rfl⟩
def g1 (a : ByteArray) : Nat → ByteArray := fun _ => a
def g2 (a b : ByteArray) : Nat → ByteArray
  | 0 => a
  | _ => b
theorem g1_at (a : ByteArray) (j : Nat) (hj : j < 1) : (#[.string a] : Array Value)[j]? = some (.string (g1 a j)) := by
  match j, hj with
  | 0, _ => rfl
theorem g2_at (a b : ByteArray) (j : Nat) (hj : j < 2) : (#[.string a, .string b] : Array Value)[j]? = some (.string (g2 a b j)) := by
  match j, hj with
  | 0, _ => rfl
  | 1, _ => rfl
def sz1 (a : ByteArray) : Bool := decide (a.size = 32)
def sz2 (a b : ByteArray) : Bool := decide (a.size = 32) && decide (b.size = 32)
theorem sized1 (a : ByteArray) (ha : a.size ≤ maxLen) (w : World) :
    Calls Tryd.prog 17 #[.slice (some ⟨w.heap.size, 0, none⟩) 1 1] (w.alloc (.cells #[.string a] 9)) fun e w' => e = .returned (.bool (sz1 a)) ∧ w' = w.alloc (.cells #[.string a] 9) :=
  sized_core (g1 a) 1 w.heap.size (by omega) _ (by simp [szB, sz1, List.range_succ, g1]; rfl) (fun j hj => ha) _ (Arr.new w _ 9 _ rfl _ 1 (g1_at a))
theorem sized2 (a b : ByteArray) (ha : a.size ≤ maxLen) (hb : b.size ≤ maxLen) (w : World) :
    Calls Tryd.prog 17 #[.slice (some ⟨w.heap.size, 0, none⟩) 2 2] (w.alloc (.cells #[.string a, .string b] 9)) fun e w' => e = .returned (.bool (sz2 a b)) ∧ w' = w.alloc (.cells #[.string a, .string b] 9) :=
  sized_core (g2 a b) 2 w.heap.size (by omega) _ (by simp [szB, sz2, List.range_succ, g2]) (fun j hj => by
    match j, hj with
    | 0, _ => exact ha
    | 1, _ => exact hb) _ (Arr.new w _ 9 _ rfl _ 2 (g2_at a b))
/-- 32 bytes 0. -/
def z32 : ByteArray := ⟨(List.replicate 32 (0 : UInt8)).toArray⟩
theorem z32_size : z32.size = 32 := rep_size 32
theorem zeros_any (w : World) : Calls Tryd.prog 24 #[] w fun e w' => e = .returned (.string z32) ∧ Below w.heap.size w w' := by
  have C : ∀ W, Calls Tryd.prog 38 #[.string ⟨#[0]⟩, .int .i64 32] W fun e w' => e = .returned (.string z32) ∧ Below W.heap.size W w' := fun W => repeat_any 32 W (by omega)
  generalize z32 = Z at *
  go_enter Tryd.func24, Tryd.ntmps24
  go_wp2_with (go_at_call 38; refine (C _).mono ?_; rintro e w1 ⟨rfl, hb⟩)
  go_ret
  exact ⟨rfl, hb⟩
theorem derived_core (s l d S : ByteArray) (x : Int) (w : World)
    (C : Calls Tryd.prog 32 #[.string s, .string l, .string d] w fun r w' => r = .returned (.tuple #[.string S, .int .i64 x]) ∧ Below w.heap.size w w') :
    Calls Tryd.prog 37 #[.string s, .string l, .string d] w fun e w' => e = .returned (.string S) ∧ Below w.heap.size w w' := by
  go_enter Tryd.func37, Tryd.ntmps37
  go_wp2_with (go_at_call 32; refine C.mono ?_; rintro e w1 ⟨rfl, hb⟩)
  go_ret
  exact ⟨rfl, hb⟩
theorem labelled_core (s l S : ByteArray) (n x : Int) (w : World)
    (C : Calls Tryd.prog 34 #[.string s, .string l, .string ⟨#[]⟩, .int .i64 n] w fun r w' => r = .returned (.tuple #[.string S, .int .i64 x]) ∧ Below w.heap.size w w') :
    Calls Tryd.prog 28 #[.string s, .string l, .int .i64 n] w fun e w' => e = .returned (.string S) ∧ Below w.heap.size w w' := by
  go_enter Tryd.func28, Tryd.ntmps28
  go_wp2_with (go_at_call 34; refine C.mono ?_; rintro e w1 ⟨rfl, hb⟩)
  go_ret
  exact ⟨rfl, hb⟩
/-- A secret of a secret. -/
def dv (s l d : ByteArray) : ByteArray := lbS s l d 32
theorem derived_any (s l d : ByteArray) (hs : s.size ≤ 100000) (hl : l.size ≤ maxLen) (hd : d.size ≤ 100000) (w : World) (hT : Tab w) :
    Calls Tryd.prog 37 #[.string s, .string l, .string d] w fun e w' => e = .returned (.string (dv s l d)) ∧ Below w.heap.size w w' := derived_core s l d _ _ w (derive_any s l d hs hl hd w hT)
/-- Bytes of a secret. -/
def lb (s l : ByteArray) (n : Int) : ByteArray := lbS s l ⟨#[]⟩ n
theorem labelled_any (s l : ByteArray) (n : Int) (hs : s.size ≤ 100000) (hl : l.size ≤ maxLen) (w : World) (hT : Tab w) :
    Calls Tryd.prog 28 #[.string s, .string l, .int .i64 n] w fun e w' => e = .returned (.string (lb s l n)) ∧ Below w.heap.size w w' := labelled_core s l _ n _ w (label_any s l ⟨#[]⟩ hs hl (by decide) n w hT)
theorem early_core (Z E : ByteArray) (w : World) (hT : Tab w)
    (C1 : ∀ W, Calls Tryd.prog 24 #[] W fun e w' => e = .returned (.string Z) ∧ Below W.heap.size W w')
    (C2 : ∀ W, Tab W → Calls Tryd.prog 36 #[.string Z, .string Z] W fun e w' => e = .returned (.string E) ∧ Below W.heap.size W w') :
    Calls Tryd.prog 19 #[] w fun e w' => e = .returned (.string E) ∧ Below w.heap.size w w' := by
  go_enter Tryd.func19, Tryd.ntmps19
  go_wp2_with fail
  refine (C1 _).mono ?_
  rintro e w1 ⟨rfl, hb⟩
  go_wp2_with fail
  refine (C1 _).mono ?_
  rintro e w2 ⟨rfl, hb2⟩
  have B2 := Bel.call hb hb2
  go_wp2_with fail
  refine (C2 _ (hT.to B2)).mono ?_
  rintro e w3 ⟨rfl, hb3⟩
  have B3 := Bel.call B2 hb3
  clear C1 C2 hb hb2 hb3 B2
  go_wp2_with fail
  go_ret
  exact ⟨rfl, B3⟩
/-- The early secret. -/
def ear : ByteArray := macS z32 z32
theorem ear_size : ear.size = 32 := macS_size _ _
theorem early_any (w : World) (hT : Tab w) : Calls Tryd.prog 19 #[] w fun e w' => e = .returned (.string ear) ∧ Below w.heap.size w w' :=
  early_core z32 _ w hT zeros_any (fun W hW => extract_any _ _ (by rw [z32_size]; omega) (by rw [z32_size]; omega) W hW)
/-- No more bytes than were asked for. -/
theorem lbS_le (s l c : ByteArray) (n : Int) (hn : n ≤ 8160) : (lbS s l c n).size ≤ 8160 := by
  unfold lbS
  by_cases h : infE l c n = 0
  · rw [if_pos h]
    unfold exS
    by_cases h2 : n < 0 ∨ 8160 < n
    · rw [if_pos h2]; decide
    · rw [if_neg h2, expS_size _ _ _ (by omega)]; omega
  · rw [if_neg h]; decide
def mkr (b d : ByteArray) : Value := .agg #[.string b, .string ⟨#[]⟩, .string ⟨#[]⟩, .string ⟨#[]⟩, .string d]
/-- The cells of a maker. -/
def mx (b c s x d : ByteArray) : Nat → Value
  | 0 => .string b
  | 1 => .string c
  | 2 => .string s
  | 3 => .string x
  | _ => .string d
theorem mx_at (b c s x d : ByteArray) (j : Nat) (hj : j < 5) : (#[.string b, .string c, .string s, .string x, .string d] : Array Value)[j]? = some (mx b c s x d j) := by
  match j, hj with
  | 0, _ => rfl
  | 1, _ => rfl
  | 2, _ => rfl
  | 3, _ => rfl
  | 4, _ => rfl
theorem Arr.five {w : World} {p : Nat} {b c s x d : ByteArray} (h : Arr w p 5 (mx b c s x d)) : (w.cell? ⟨p, 0, none⟩ = some (.string b) ∧ w.cell? ⟨p, 1, none⟩ = some (.string c) ∧ w.cell? ⟨p, 2, none⟩ = some (.string s) ∧ w.cell? ⟨p, 3, none⟩ = some (.string x) ∧ w.cell? ⟨p, 4, none⟩ = some (.string d)) ∧
    (w.frozen? ⟨p, 0, none⟩ = false ∧ w.frozen? ⟨p, 1, none⟩ = false ∧ w.frozen? ⟨p, 2, none⟩ = false ∧ w.frozen? ⟨p, 3, none⟩ = false ∧ w.frozen? ⟨p, 4, none⟩ = false) :=
  ⟨⟨h.c 0 (by omega), h.c 1 (by omega), h.c 2 (by omega), h.c 3 (by omega), h.c 4 (by omega)⟩, h.z 0 (by omega), h.z 1 (by omega), h.z 2 (by omega), h.z 3 (by omega), h.z 4 (by omega)⟩
set_option maxHeartbeats 2000000 in
theorem maker_core (b f d E D B : ByteArray) (w : World) (hT : Tab w)
    (C1 : ∀ W, Tab W → Calls Tryd.prog 33 #[.string ⟨#[]⟩] W fun e w' => e = .returned (.string E) ∧ Below W.heap.size W w')
    (C2 : ∀ W, Tab W → Calls Tryd.prog 37 #[.string b, .string ⟨#[100, 101, 114, 105, 118, 101, 100]⟩, .string E] W fun e w' => e = .returned (.string D) ∧ Below W.heap.size W w')
    (C3 : ∀ W, Tab W → Calls Tryd.prog 36 #[.string D, .string f] W fun e w' => e = .returned (.string B) ∧ Below W.heap.size W w') :
    Calls Tryd.prog 18 #[.string b, .string f, .string d] w fun e w' => e = .returned (mkr B d) ∧ Below w.heap.size w w' := by
  unfold mkr
  go_enter Tryd.func18, Tryd.ntmps18
  go_wp2_with fail
  generalize hW : World.alloc _ _ = W2
  have A1 : Arr W2 (w.heap.size + 1) 5 (mx ⟨#[]⟩ ⟨#[]⟩ ⟨#[]⟩ ⟨#[]⟩ d) := by
    rw [← hW]
    exact Arr.new _ _ _ _ (by simp) _ 5 (mx_at _ _ _ _ _)
  have A0 : Arr W2 w.heap.size 5 (mx ⟨#[]⟩ ⟨#[]⟩ ⟨#[]⟩ ⟨#[]⟩ ⟨#[]⟩) := by
    rw [← hW]
    exact (Arr.new _ _ _ _ rfl _ 5 (mx_at _ _ _ _ _)).al' _
  have B0 : Below w.heap.size w W2 := by rw [← hW]; go_grown
  have T0 := hT.to B0
  clear hW hT
  refine (C1 _ T0).mono ?_
  rintro e w1 ⟨rfl, hb⟩
  have A1 := A1.to' hb
  have A0 := A0.to' hb
  have B1 := Bel.call B0 hb
  have T1 := T0.to hb
  clear hb C1 B0 T0
  go_wp2_with fail
  refine (C2 _ T1).mono ?_
  rintro e w2 ⟨rfl, hb⟩
  have A1 := A1.to' hb
  have A0 := A0.to' hb
  have B2 := Bel.call B1 hb
  have T2 := T1.to hb
  clear hb C2 B1 T1
  go_wp2_with fail
  refine (C3 _ T2).mono ?_
  rintro e w3 ⟨rfl, hb⟩
  have A1 := A1.to' hb
  have A0 := A0.to' hb
  have B3 := Bel.call B2 hb
  clear hb C3 B2 T2
  obtain ⟨⟨k0, k1, k2, k3, k4⟩, z0, z1, z2, z3, z4⟩ := A1.five
  obtain ⟨⟨j0, j1, j2, j3, j4⟩, y0, y1, y2, y3, y4⟩ := A0.five
  clear A1 A0
  go_wp2_with fail
  refine bodyPost_ret (v := .agg #[.string B, .string ⟨#[]⟩, .string ⟨#[]⟩, .string ⟨#[]⟩, .string d]) (by simp [results, Tryd.results18, go_sem, j0, j1, j2, j3, j4]) rfl ⟨rfl, ?_⟩
  go_grown
theorem maker_any (b f d : ByteArray) (hb : b.size ≤ 100000) (hf : f.size ≤ 1000000) (w : World) (hT : Tab w) :
    Calls Tryd.prog 18 #[.string b, .string f, .string d] w fun e w' => e = .returned (mkr (macS (dv b ⟨#[100, 101, 114, 105, 118, 101, 100]⟩ (ofS ⟨#[]⟩)) f) d) ∧ Below w.heap.size w w' :=
  maker_core b f d _ _ _ w hT (fun W hW => of_any _ (by decide) W hW) (fun W hW => derived_any b _ _ hb (by decide) (by rw [ofS_size]; omega) W hW)
    (fun W hW => extract_any _ _ (by have := lbS_le b ⟨#[100, 101, 114, 105, 118, 101, 100]⟩ (ofS ⟨#[]⟩) 32 (by omega); unfold dv; omega) hf W hW)
end Go.Proofs.YtfglpcfacjedmaaDoor
