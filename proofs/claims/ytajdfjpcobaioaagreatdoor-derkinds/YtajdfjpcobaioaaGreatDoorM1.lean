/- Numbers and bytes, the highest first, as few as can be. -/
import Derived.Test.YtajdfjpcobaioaaGreatDoorN3
set_option linter.all false
set_option maxRecDepth 100000
namespace Go.Proofs.YtajdfjpcobaioaaGreatDoor
open Go.RowKit
def Bys (l : List Int) : Prop := ∀ x ∈ l, 0 ≤ x ∧ x < 256
theorem Bys.tl {x : Int} {l : List Int} (h : Bys (x :: l)) : Bys l := fun y hy => h y (List.mem_cons_of_mem _ hy)
theorem Bys.hd {x : Int} {l : List Int} (h : Bys (x :: l)) : 0 ≤ x ∧ x < 256 := h x (List.mem_cons_self ..)
theorem Bys.cons {x : Int} {l : List Int} (h : 0 ≤ x ∧ x < 256) (hl : Bys l) : Bys (x :: l) := fun y hy => by
  rcases List.mem_cons.1 hy with rfl | hy
  · exact h
  · exact hl y hy
theorem Bys.app {a b : List Int} (ha : Bys a) (hb : Bys b) : Bys (a ++ b) := fun y hy => (List.mem_append.1 hy).elim (ha y) (hb y)
/-- The number of some bytes, the highest first. -/
def beV : List Int → Int
  | [] => 0
  | x :: l => x * 256 ^ l.length + beV l
theorem pw_pos (n : Nat) : (0 : Int) < 256 ^ n := Int.pow_pos (by decide)
theorem beV_bd (l : List Int) (h : Bys l) : 0 ≤ beV l ∧ beV l < 256 ^ l.length := by
  induction l with
  | nil => simp [beV]
  | cons x l ih =>
    have := ih h.tl
    have hx := h.hd
    have p := pw_pos l.length
    have m0 : 0 ≤ x * 256 ^ l.length := Int.mul_nonneg hx.1 (by omega)
    have m1 : x * 256 ^ l.length ≤ 255 * 256 ^ l.length := Int.mul_le_mul_of_nonneg_right (by omega) (by omega)
    rw [beV, List.length_cons, Int.pow_succ]
    omega
theorem beV_app (a b : List Int) : beV (a ++ b) = beV a * 256 ^ b.length + beV b := by
  induction a with
  | nil => simp [beV]
  | cons x a ih =>
    rw [List.cons_append, beV, beV, ih, List.length_append, Int.pow_add]
    grind
theorem beV_snoc (a : List Int) (x : Int) : beV (a ++ [x]) = beV a * 256 + x := by
  rw [beV_app]; simp [beV]
theorem beV_zeros (k : Nat) (l : List Int) : beV (List.replicate k 0 ++ l) = beV l := by
  induction k with
  | zero => rfl
  | succ k ih => rw [List.replicate_succ, List.cons_append, beV, ih]; omega
theorem beV_inj (a b : List Int) (ha : Bys a) (hb : Bys b) (hl : a.length = b.length) (h : beV a = beV b) : a = b := by
  induction a generalizing b with
  | nil => exact (List.eq_nil_of_length_eq_zero hl.symm).symm
  | cons x a ih =>
    cases b with
    | nil => simp at hl
    | cons y b =>
      have hl' : a.length = b.length := by simpa using hl
      have p := pw_pos b.length
      have va := beV_bd a ha.tl
      have vb := beV_bd b hb.tl
      rw [beV, beV, hl'] at h
      rw [hl'] at va
      have hxy : x = y := by
        rcases Int.lt_trichotomy x y with c | c | c
        · have : (x + 1) * 256 ^ b.length ≤ y * 256 ^ b.length := Int.mul_le_mul_of_nonneg_right (by omega) (by omega)
          rw [Int.add_mul, Int.one_mul] at this
          omega
        · exact c
        · have : (y + 1) * 256 ^ b.length ≤ x * 256 ^ b.length := Int.mul_le_mul_of_nonneg_right (by omega) (by omega)
          rw [Int.add_mul, Int.one_mul] at this
          omega
      subst hxy
      rw [ih b ha.tl hb.tl hl' (by omega)]
/-- Without the bytes 0 ahead. -/
def dz (l : List Int) : List Int := l.dropWhile (fun x => decide (x = 0))
theorem dz_split (l : List Int) : ∃ k, l = List.replicate k 0 ++ dz l ∧ k + (dz l).length = l.length := by
  induction l with
  | nil => exact ⟨0, rfl, rfl⟩
  | cons x l ih =>
    by_cases h : x = 0
    · subst h
      obtain ⟨k, e, hk⟩ := ih
      have : dz (0 :: l) = dz l := by simp [dz]
      refine ⟨k + 1, ?_, ?_⟩
      · rw [this, List.replicate_succ, List.cons_append, ← e]
      · rw [this, List.length_cons]; omega
    · have : dz (x :: l) = x :: l := by simp [dz, h]
      exact ⟨0, by rw [this]; rfl, by rw [this]; simp⟩
theorem dz_head (l : List Int) (x : Int) (r : List Int) (h : dz l = x :: r) : x ≠ 0 := by
  induction l with
  | nil => simp [dz] at h
  | cons y l ih =>
    by_cases hy : y = 0
    · subst hy
      have : dz (0 :: l) = dz l := by simp [dz]
      rw [this] at h; exact ih h
    · have : dz (y :: l) = y :: l := by simp [dz, hy]
      rw [this] at h; cases h; exact hy
theorem dz_val (l : List Int) : beV (dz l) = beV l := by
  obtain ⟨k, e, _⟩ := dz_split l
  have := beV_zeros k (dz l)
  rw [← e] at this
  exact this.symm
theorem dz_bys (l : List Int) (h : Bys l) : Bys (dz l) := fun x hx => h x ((List.dropWhile_sublist _).subset hx)
theorem dz_zeros (k : Nat) (l : List Int) : dz (List.replicate k 0 ++ l) = dz l := by
  induction k with
  | zero => rfl
  | succ k ih => rw [List.replicate_succ, List.cons_append]; simp [dz]
theorem dz_id (x : Int) (r : List Int) (h : x ≠ 0) : dz (x :: r) = x :: r := by simp [dz, h]
/-- As a number stands within a tag. -/
def iL (d : List Int) : List Int := if d = [] ∨ 128 ≤ d.headD 0 then 0 :: d else d
theorem iL_bys (d : List Int) (h : Bys d) : Bys (iL d) := by
  unfold iL; split
  · exact Bys.cons (by omega) h
  · exact h
/-- What is left of a text without one byte 0 ahead. -/
def cut0 (l : List Int) : List Int := if l.headD 1 = 0 then l.tail else l
/-- ToInt's error. -/
def tiE (l : List Int) : Int := if l = [] then 11 else if 128 ≤ l.headD 0 ∨ (1 < l.length ∧ l.headD 0 = 0 ∧ l.tail.headD 0 < 128) then 10 else if 32 < (cut0 l).length then 13 else 0
theorem ti_iL (d : List Int) (hb : Bys d) (hl : d.length ≤ 32) (hd : ∀ x r, d = x :: r → x ≠ 0) : tiE (iL d) = 0 ∧ cut0 (iL d) = d := by
  unfold iL
  cases d with
  | nil => simp [tiE, cut0]
  | cons x r =>
    have hx := hd x r rfl
    have hr := hb.hd
    by_cases c : 128 ≤ x
    · rw [if_pos (by simp [c])]
      have e : cut0 (0 :: x :: r) = x :: r := by simp [cut0]
      refine ⟨?_, e⟩
      unfold tiE
      rw [e]
      simp at hl ⊢
      omega
    · rw [if_neg (by simp [c])]
      have e : cut0 (x :: r) = x :: r := by simp [cut0, hx]
      refine ⟨?_, e⟩
      unfold tiE
      rw [e]
      simp [hx] at hl ⊢
      omega
theorem iL_ti (l : List Int) (hb : Bys l) (h : tiE l = 0) : (cut0 l).length ≤ 32 ∧ iL (dz (cut0 l)) = l := by
  unfold tiE at h
  split at h
  · exact absurd h (by decide)
  · rename_i h0
    split at h
    · exact absurd h (by decide)
    · rename_i h1
      split at h
      · exact absurd h (by decide)
      · rename_i h2
        refine ⟨by omega, ?_⟩
        cases l with
        | nil => exact absurd rfl h0
        | cons x r =>
          have hx := hb.hd
          simp at h1
          by_cases c : x = 0
          · subst c
            have e : cut0 (0 :: r) = r := by simp [cut0]
            rw [e]
            cases r with
            | nil => simp [dz, iL]
            | cons y r =>
              have hy : 128 ≤ y := by have := h1.2; simp at this; omega
              rw [dz_id y r (by omega)]
              simp [iL, hy]
          · have e : cut0 (x :: r) = x :: r := by simp [cut0, c]
            rw [e, dz_id x r c]
            unfold iL
            rw [if_neg (by simp; omega)]
theorem iL_len (a b : List Int) (ha : Bys a) (hb : Bys b) (h : beV a ≤ beV b) : (iL (dz a)).length ≤ (iL (dz b)).length := by
  rw [← dz_val a, ← dz_val b] at h
  have ha' := dz_bys a ha
  have hb' := dz_bys b hb
  have na := dz_head a
  generalize dz a = p at *
  generalize dz b = q at *
  have vq := beV_bd q hb'
  have len_ge : ∀ d : List Int, d.length ≤ (iL d).length ∧ (iL d).length ≤ d.length + 1 := fun d => by
    unfold iL; split <;> simp
  have lp := len_ge p
  have lq := len_ge q
  cases p with
  | nil =>
    have : (iL []).length = 1 := by simp [iL]
    rw [this]
    cases q with
    | nil => simp [iL]
    | cons y q => simp at lq; omega
  | cons x p =>
    have hx := na x p rfl
    have hr := ha'.hd
    have vp := beV_bd p ha'.tl
    have pp := pw_pos p.length
    have e : beV (x :: p) = x * 256 ^ p.length + beV p := rfl
    have m1 : 1 * 256 ^ p.length ≤ x * 256 ^ p.length := Int.mul_le_mul_of_nonneg_right (by omega) (by omega)
    have hlen : p.length < q.length := by
      apply Nat.not_le.1
      intro c
      have : (256 : Int) ^ q.length ≤ 256 ^ p.length := by
        obtain ⟨k, hk⟩ := Nat.le.dest c
        rw [← hk, Int.pow_add]
        have := Int.mul_le_mul_of_nonneg_left (show (1 : Int) ≤ 256 ^ k from by have := pw_pos k; omega) (show (0 : Int) ≤ 256 ^ q.length from by have := pw_pos q.length; omega)
        omega
      omega
    cases q with
    | nil => simp at hlen
    | cons y q =>
      simp only [List.length_cons] at *
      by_cases c : p.length < q.length
      · omega
      · have eq : p.length = q.length := by omega
        have vq' := beV_bd q hb'.tl
        have e2 : beV (y :: q) = y * 256 ^ q.length + beV q := rfl
        by_cases cx : 128 ≤ x
        · have hxy : x ≤ y := by
            apply Int.not_lt.1
            intro c2
            have : (y + 1) * 256 ^ q.length ≤ x * 256 ^ q.length := Int.mul_le_mul_of_nonneg_right (by omega) (by have := pw_pos q.length; omega)
            rw [Int.add_mul, Int.one_mul] at this
            rw [e, e2, eq] at h
            omega
          have : iL (y :: q) = 0 :: y :: q := by unfold iL; rw [if_pos (by simp; omega)]
          rw [this]; simp; omega
        · have : iL (x :: p) = x :: p := by unfold iL; rw [if_neg (by simp; omega)]
          rw [this]; simp; omega
/- Texts as rows of numbers. -/
def sL (s : ByteArray) : List Int := s.data.toList.map (fun b : UInt8 => (b.toNat : Int))
theorem mkS_sL (s : ByteArray) : mkS (sL s) = s := mkS_strCells s
theorem sL_bys (s : ByteArray) : Bys (sL s) := fun x hx => by
  obtain ⟨b, _, rfl⟩ := List.mem_map.1 hx
  have := b.toNat_lt
  omega
theorem sL_len (s : ByteArray) : (sL s).length = s.size := by rw [sL, List.length_map, len_list]
theorem sL_mkS (l : List Int) (h : Bys l) : sL (mkS l) = l := by
  unfold sL
  rw [mkS_list, List.map_map]
  conv => rhs; rw [← List.map_id l]
  apply List.map_congr_left
  intro x hx
  have := h x hx
  simp only [Function.comp]
  show ((UInt8.ofNat x.toNat).toNat : Int) = x
  rw [UInt8.toNat_ofNat']
  omega
theorem mkS_inj (a b : List Int) (ha : Bys a) (hb : Bys b) (h : mkS a = mkS b) : a = b := by
  rw [← sL_mkS a ha, ← sL_mkS b hb, h]
theorem mkS_app (a b : List Int) : mkS a ++ mkS b = mkS (a ++ b) := by
  apply ba_ext
  rw [ap_list, mkS_list, mkS_list, mkS_list, List.map_append]
theorem bt_sL (s : ByteArray) (i : Nat) : bt s i = (sL s).getD i 0 := by
  unfold bt sL
  rw [List.getD_eq_getElem?_getD, List.getElem?_map, Array.getElem?_toList]
  cases s.data[i]? <;> rfl
theorem bgL_bys (N : Int) : Bys (bgL N) := fun x hx => by
  unfold bgL at hx
  obtain ⟨j, _, rfl⟩ := List.mem_map.1 hx
  exact byt_bd N j
theorem bgL_len (N : Int) : (bgL N).length = 32 := by simp [bgL]
theorem pn_beV (f : Nat → Int) (l : List Int) : (∀ i, i < l.length → f i = l.getD i 0) → pn 8 f l.length = beV l := by
  intro h
  have key : ∀ k, k ≤ l.length → pn 8 f k = beV (l.take k) := by
    intro k
    induction k with
    | zero => intro _; simp [pn, beV]
    | succ k ih =>
      intro hk
      rw [pn, ih (by omega), List.take_succ_eq_append_getElem (by omega), beV_snoc, h k (by omega), List.getD_eq_getElem?_getD, List.getElem?_eq_getElem (by omega)]
      rfl
  have := key l.length (Nat.le_refl _)
  rw [List.take_length] at this
  exact this
theorem bgL_val (N : Int) (h0 : 0 ≤ N) (h1 : N < top256) : beV (bgL N) = N := by
  have := pn_beV (byt N) (bgL N) (fun i hi => by
    rw [bgL_len] at hi
    rw [List.getD_eq_getElem?_getD, bgL_at N i hi]; rfl)
  rw [bgL_len, pn_all N h0 h1] at this
  exact this.symm
theorem pow32 : (256 : Int) ^ 32 = top256 := by decide
theorem bgL_beV (l : List Int) (h : Bys l) (hl : l.length = 32) : 0 ≤ beV l ∧ beV l < top256 ∧ bgL (beV l) = l := by
  have b := beV_bd l h
  rw [hl, pow32] at b
  exact ⟨b.1, b.2, beV_inj _ _ (bgL_bys _) h (by rw [bgL_len, hl]) (bgL_val _ b.1 b.2)⟩
end Go.Proofs.YtajdfjpcobaioaaGreatDoor
