/- Both sides' answers: Handshake, Master, Side, Finish, Export. -/
import Derived.Test.YtfglpcfacjedmaaDoorSD
import Derived.Test.YtfglpcfacjedmaaDoorSF
set_option linter.all false
set_option maxRecDepth 100000
namespace Go.Proofs.YtfglpcfacjedmaaDoor
open Go.RowKit Go.Sort
abbrev tCh : ByteArray := ⟨#[99, 32, 104, 115, 32, 116, 114, 97, 102, 102, 105, 99]⟩
abbrev tSh : ByteArray := ⟨#[115, 32, 104, 115, 32, 116, 114, 97, 102, 102, 105, 99]⟩
abbrev tCa : ByteArray := ⟨#[99, 32, 97, 112, 32, 116, 114, 97, 102, 102, 105, 99]⟩
abbrev tSa : ByteArray := ⟨#[115, 32, 97, 112, 32, 116, 114, 97, 102, 102, 105, 99]⟩
abbrev tEx : ByteArray := ⟨#[101, 120, 112, 32, 109, 97, 115, 116, 101, 114]⟩
/-- Both have 32 bytes. -/
abbrev ok2 (a b : ByteArray) : Prop := a.size = 32 ∧ b.size = 32

theorem sz2_yes {a b : ByteArray} (h : ok2 a b) : sz2 a b = true := by simp [sz2, h.1, h.2]
theorem sz2_no {a b : ByteArray} (h : ¬ ok2 a b) : sz2 a b = false := by
  rw [← Bool.not_eq_true]
  intro e
  simp only [sz2, Bool.and_eq_true, decide_eq_true_eq] at e
  exact h e
theorem sz1_yes {a : ByteArray} (h : a.size = 32) : sz1 a = true := by simp [sz1, h]
theorem sz1_no {a : ByteArray} (h : ¬ a.size = 32) : sz1 a = false := by simp [sz1, h]
/-- What Handshake answers. -/
def hE (a b : ByteArray) : Int := if ok2 a b then 0 else 10
def hB (a b : ByteArray) : ByteArray := if ok2 a b then nxs ear a else ⟨#[]⟩
def hC (a b : ByteArray) : ByteArray := if ok2 a b then dv (nxs ear a) tCh b else ⟨#[]⟩
def hS (a b : ByteArray) : ByteArray := if ok2 a b then dv (nxs ear a) tSh b else ⟨#[]⟩
theorem hand_any (a b : ByteArray) (ha : a.size ≤ maxLen) (hb : b.size ≤ maxLen) (w : World) (hT : Tab w) :
    Calls Tryd.prog 6 #[.string a, .string b] w fun e w' => e = .returned (.tuple #[sec (hB a b) (hC a b) (hS a b) ⟨#[]⟩, .int .i64 (hE a b)]) ∧ Below w.heap.size w w' := by
  have C17 := fun W => sized2 a b ha hb W
  unfold hB hC hS hE
  by_cases h : ok2 a b
  · rw [if_pos h, if_pos h, if_pos h, if_pos h]
    rw [sz2_yes h] at C17
    obtain ⟨h1, h2⟩ := h
    refine hand_yes a b ear (nxs ear a) _ _ w hT C17 (fun W hW => early_any W hW) (fun W hW => maker_any ear a b (by rw [ear_size]; omega) (by omega) W hW) (fun W q hW hA => ?_)
    refine (derive_core (g2 tCh tSh) 2 q (by omega) (by omega) (nxs ear a) b (fun l => dv (nxs ear a) l b) W hW hA (fun j hj V hV => derived_any _ _ _ (by rw [nxs_size]; omega) ?_ (by omega) V hV)).mono ?_
    · match j, hj with
      | 0, _ => decide
      | 1, _ => decide
    · rintro e w' ⟨p, cap, he, hp, hc, hb⟩
      exact ⟨p, cap, he, hp, ⟨hc 0 (by omega), hc 1 (by omega)⟩, hb⟩
  · rw [if_neg h, if_neg h, if_neg h, if_neg h]
    rw [sz2_no h] at C17
    exact hand_no a b w C17
theorem rhand_any (a b : ByteArray) (ha : a.size ≤ maxLen) (hb : b.size ≤ maxLen) (w : World) :
    Calls Tryd.prog 7 #[.string a, .string b] w fun e w' => e = .returned (.tuple #[sec (hB a b) (hC a b) (hS a b) ⟨#[]⟩, .int .i64 (hE a b)]) ∧ Below w.heap.size w w' := by
  unfold hB hC hS hE
  by_cases h : ok2 a b
  · rw [if_pos h, if_pos h, if_pos h, if_pos h]
    obtain ⟨h1, h2⟩ := h
    exact rhand_yes a b ear (nxs ear a) _ _ h1 h2 w rearly_any (fun W => rnext_any _ _ (by rw [ear_size]; omega) (by omega) W) (fun W => rderived_any _ _ _ (by rw [nxs_size]; omega) (by decide) (by omega) W) (fun W => rderived_any _ _ _ (by rw [nxs_size]; omega) (by decide) (by omega) W)
  · rw [if_neg h, if_neg h, if_neg h, if_neg h]
    exact rhand_no a b ha hb h w
/-- What Master answers. -/
def mB (a b : ByteArray) : ByteArray := if ok2 a b then nxs a z32 else ⟨#[]⟩
def mC (a b : ByteArray) : ByteArray := if ok2 a b then dv (nxs a z32) tCa b else ⟨#[]⟩
def mS (a b : ByteArray) : ByteArray := if ok2 a b then dv (nxs a z32) tSa b else ⟨#[]⟩
def mX (a b : ByteArray) : ByteArray := if ok2 a b then dv (nxs a z32) tEx b else ⟨#[]⟩
theorem mast_any (x0 x1 x2 x3 b : ByteArray) (ha : x0.size ≤ maxLen) (hb : b.size ≤ maxLen) (w : World) (hT : Tab w) :
    Calls Tryd.prog 8 #[sec x0 x1 x2 x3, .string b] w fun e w' => e = .returned (.tuple #[sec (mB x0 b) (mC x0 b) (mS x0 b) (mX x0 b), .int .i64 (hE x0 b)]) ∧ Below w.heap.size w w' := by
  have C17 := fun W => sized2 x0 b ha hb W
  unfold mB mC mS mX hE
  by_cases h : ok2 x0 b
  · rw [if_pos h, if_pos h, if_pos h, if_pos h, if_pos h]
    rw [sz2_yes h] at C17
    obtain ⟨h1, h2⟩ := h
    refine mast_yes x0 x1 x2 x3 b z32 (nxs x0 z32) _ _ _ w hT C17 zeros_any (fun W hW => maker_any x0 z32 b (by omega) (by rw [z32_size]; omega) W hW) (fun W q hW hA => ?_)
    refine (derive_core (g3 tCa tSa tEx) 3 q (by omega) (by omega) (nxs x0 z32) b (fun l => dv (nxs x0 z32) l b) W hW hA (fun j hj V hV => derived_any _ _ _ (by rw [nxs_size]; omega) ?_ (by omega) V hV)).mono ?_
    · match j, hj with
      | 0, _ => decide
      | 1, _ => decide
      | 2, _ => decide
    · rintro e w' ⟨p, cap, he, hp, hc, hb⟩
      exact ⟨p, cap, he, hp, ⟨hc 0 (by omega), hc 1 (by omega), hc 2 (by omega)⟩, hb⟩
  · rw [if_neg h, if_neg h, if_neg h, if_neg h, if_neg h]
    rw [sz2_no h] at C17
    exact mast_no x0 x1 x2 x3 b w C17
theorem rmast_any (x0 x1 x2 x3 b : ByteArray) (ha : x0.size ≤ maxLen) (hb : b.size ≤ maxLen) (w : World) :
    Calls Tryd.prog 9 #[sec x0 x1 x2 x3, .string b] w fun e w' => e = .returned (.tuple #[sec (mB x0 b) (mC x0 b) (mS x0 b) (mX x0 b), .int .i64 (hE x0 b)]) ∧ Below w.heap.size w w' := by
  unfold mB mC mS mX hE
  by_cases h : ok2 x0 b
  · rw [if_pos h, if_pos h, if_pos h, if_pos h, if_pos h]
    obtain ⟨h1, h2⟩ := h
    exact rmast_yes x0 x1 x2 x3 b z32 (nxs x0 z32) _ _ _ h1 h2 w rzeros_any (fun W => rnext_any _ _ (by omega) (by rw [z32_size]; omega) W) (fun W => rderived_any _ _ _ (by rw [nxs_size]; omega) (by decide) (by omega) W) (fun W => rderived_any _ _ _ (by rw [nxs_size]; omega) (by decide) (by omega) W) (fun W => rderived_any _ _ _ (by rw [nxs_size]; omega) (by decide) (by omega) W)
  · rw [if_neg h, if_neg h, if_neg h, if_neg h, if_neg h]
    exact rmast_no x0 x1 x2 x3 b ha hb h w
/-- What Side answers. -/
def dE (a : ByteArray) : Int := if a.size = 32 then 0 else 10
def dK (a : ByteArray) : ByteArray := if a.size = 32 then lb a ⟨#[107, 101, 121]⟩ 16 else ⟨#[]⟩
def dI (a : ByteArray) : ByteArray := if a.size = 32 then lb a ⟨#[105, 118]⟩ 12 else ⟨#[]⟩
theorem side_any (a : ByteArray) (ha : a.size ≤ maxLen) (w : World) (hT : Tab w) :
    Calls Tryd.prog 11 #[.string a] w fun e w' => e = .returned (.tuple #[sid (dK a) (dI a), .int .i64 (dE a)]) ∧ Below w.heap.size w w' := by
  have C17 := fun W => sized1 a ha W
  unfold dK dI dE
  by_cases h : a.size = 32
  · rw [if_pos h, if_pos h, if_pos h]
    rw [sz1_yes h] at C17
    exact side_yes a _ _ w hT C17 (fun W hW => labelled_any a _ 16 (by omega) (by decide) W hW) (fun W hW => labelled_any a _ 12 (by omega) (by decide) W hW)
  · rw [if_neg h, if_neg h, if_neg h]
    rw [sz1_no h] at C17
    exact side_no a w C17
theorem rside_any (a : ByteArray) (ha : a.size ≤ maxLen) (w : World) :
    Calls Tryd.prog 12 #[.string a] w fun e w' => e = .returned (.tuple #[sid (dK a) (dI a), .int .i64 (dE a)]) ∧ Below w.heap.size w w' := by
  unfold dK dI dE
  by_cases h : a.size = 32
  · rw [if_pos h, if_pos h, if_pos h]
    exact rside_yes a _ _ _ _ h w (fun W => rlabel_any a _ ⟨#[]⟩ (by omega) (by decide) (by decide) 16 W) (fun W => rlabel_any a _ ⟨#[]⟩ (by omega) (by decide) (by decide) 12 W)
  · rw [if_neg h, if_neg h, if_neg h]
    exact rside_no a ha h w
/-- What Finish answers. -/
def fS (a b : ByteArray) : ByteArray := if ok2 a b then macS (lb a ⟨#[102, 105, 110, 105, 115, 104, 101, 100]⟩ 32) b else ⟨#[]⟩
theorem lb_le (a l : ByteArray) (n : Int) (h : n ≤ 8160) : (lb a l n).size ≤ 8160 := lbS_le a l _ n h
theorem fin_any (a b : ByteArray) (ha : a.size ≤ maxLen) (hb : b.size ≤ maxLen) (w : World) (hT : Tab w) :
    Calls Tryd.prog 13 #[.string a, .string b] w fun e w' => e = .returned (.tuple #[.string (fS a b), .int .i64 (hE a b)]) ∧ Below w.heap.size w w' := by
  have C17 := sized2 a b ha hb w
  unfold fS hE
  by_cases h : ok2 a b
  · rw [if_pos h, if_pos h]
    rw [sz2_yes h] at C17
    obtain ⟨h1, h2⟩ := h
    have z := lb_le a ⟨#[102, 105, 110, 105, 115, 104, 101, 100]⟩ 32 (by omega)
    exact fin_yes a b _ _ w hT C17 (fun W hW => labelled_any a _ 32 (by omega) (by decide) W hW) (fun W hW => mac_any _ b (by omega) (by omega) W hW)
  · rw [if_neg h, if_neg h]
    rw [sz2_no h] at C17
    exact fin_no a b w C17
theorem rfin_any (a b : ByteArray) (ha : a.size ≤ maxLen) (hb : b.size ≤ maxLen) (w : World) :
    Calls Tryd.prog 14 #[.string a, .string b] w fun e w' => e = .returned (.tuple #[.string (fS a b), .int .i64 (hE a b)]) ∧ Below w.heap.size w w' := by
  unfold fS hE
  by_cases h : ok2 a b
  · rw [if_pos h, if_pos h]
    obtain ⟨h1, h2⟩ := h
    have z := lbS_le a ⟨#[102, 105, 110, 105, 115, 104, 101, 100]⟩ ⟨#[]⟩ 32 (by omega)
    exact rfin_yes a b _ _ _ h1 h2 w (fun W => rlabel_any a _ ⟨#[]⟩ (by omega) (by decide) (by decide) 32 W) (fun W => rmac_any _ b (by omega) (by omega) W)
  · rw [if_neg h, if_neg h]
    exact rfin_no a b ha hb h w
/-- What Export answers. -/
def xS (x l c : ByteArray) (n : Int) : ByteArray := if x.size = 32 then if lbE l (ofS ⟨#[]⟩) 32 = 0 then lbS (dv x l (ofS ⟨#[]⟩)) ⟨#[101, 120, 112, 111, 114, 116, 101, 114]⟩ (ofS c) n else ⟨#[]⟩ else ⟨#[]⟩
def xE (x l c : ByteArray) (n : Int) : Int := if x.size = 32 then if lbE l (ofS ⟨#[]⟩) 32 = 0 then lbE ⟨#[101, 120, 112, 111, 114, 116, 101, 114]⟩ (ofS c) n else lbE l (ofS ⟨#[]⟩) 32 else 10
theorem tup_if (p : Prop) [Decidable p] (a b : ByteArray) (x y : Int) : (.tuple #[.string (if p then a else b), .int .i64 (if p then x else y)] : Value) = if p then .tuple #[.string a, .int .i64 x] else .tuple #[.string b, .int .i64 y] := by
  by_cases h : p
  · rw [if_pos h, if_pos h, if_pos h]
  · rw [if_neg h, if_neg h, if_neg h]
theorem exp_any (x0 x1 x2 x3 l c : ByteArray) (n : Int) (hx : x3.size ≤ maxLen) (hl : l.size ≤ maxLen) (hc : c.size ≤ 100000) (w : World) (hT : Tab w) :
    Calls Tryd.prog 15 #[sec x0 x1 x2 x3, .string l, .string c, .int .i64 n] w fun e w' => e = .returned (.tuple #[.string (xS x3 l c n), .int .i64 (xE x3 l c n)]) ∧ Below w.heap.size w w' := by
  have C17 := fun W => sized1 x3 hx W
  unfold xS xE
  by_cases h : x3.size = 32
  · rw [if_pos h, if_pos h]
    rw [sz1_yes h] at C17
    have z := lbS_le x3 l (ofS ⟨#[]⟩) 32 (by omega)
    exact exp_yes x0 x1 x2 x3 l c _ _ _ _ n _ _ _ (tup_if _ _ _ _ _) w hT C17 (fun W hW => of_any _ (by decide) W hW) (fun W hW => derive_any x3 l _ (by omega) hl (by rw [ofS_size]; omega) W hW)
      (fun W hW => of_any c (by omega) W hW) (fun W hW => label_any _ _ _ (by omega) (by decide) (by rw [ofS_size]; omega) n W hW)
  · rw [if_neg h, if_neg h]
    rw [sz1_no h] at C17
    exact exp_no x0 x1 x2 x3 l c n w C17
theorem rexp_any (x0 x1 x2 x3 l c : ByteArray) (n : Int) (hx : x3.size ≤ maxLen) (hl : l.size ≤ maxLen) (hc : c.size ≤ 100000) (w : World) :
    Calls Tryd.prog 16 #[sec x0 x1 x2 x3, .string l, .string c, .int .i64 n] w fun e w' => e = .returned (.tuple #[.string (xS x3 l c n), .int .i64 (xE x3 l c n)]) ∧ Below w.heap.size w w' := by
  unfold xS xE
  by_cases h : x3.size = 32
  · rw [if_pos h, if_pos h]
    have z := lbS_le x3 l (ofS ⟨#[]⟩) 32 (by omega)
    exact rexp_yes x0 x1 x2 x3 l c _ _ _ _ n _ _ _ (tup_if _ _ _ _ _) h w (fun W => rof_any _ (by decide) W) (fun W => rderive_any x3 l _ (by omega) hl (by rw [ofS_size]; omega) W)
      (fun W => rof_any c (by omega) W) (fun W => rlabel_any _ _ _ (by omega) (by decide) (by rw [ofS_size]; omega) n W)
  · rw [if_neg h, if_neg h]
    exact rexp_no x0 x1 x2 x3 l c n hx h w
end Go.Proofs.YtfglpcfacjedmaaDoor
