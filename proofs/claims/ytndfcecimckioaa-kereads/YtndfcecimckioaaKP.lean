/- Records of key establishment as bytes, and bytes as records: the plain mathematics. -/
import Derived.Test.YtndfcecimckioaaB3
set_option linter.all false
set_option maxRecDepth 100000
namespace Go.Proofs.Ytndfcecimckioaa
/-- A record. -/
structure Ke where
  c : Bool
  k : Int
  s : ByteArray
theorem Ke.ext' {a b : Ke} (h1 : a.c = b.c) (h2 : a.k = b.k) (h3 : a.s = b.s) : a = b := by
  cases a; cases b; cases h1; cases h2; cases h3; rfl
def baL (l : List UInt8) : ByteArray := ⟨l.toArray⟩
theorem baL_list (l : List UInt8) : (baL l).data.toList = l := rfl
theorem baL_size (l : List UInt8) : (baL l).size = l.length := by rw [← len_list]; rfl
theorem baL_of (s : ByteArray) : baL s.data.toList = s := by apply ba_ext; rfl
theorem baL_app (a b : List UInt8) : baL a ++ baL b = baL (a ++ b) := by apply ba_ext; rw [ap_list]; rfl
theorem baL_inj {a b : List UInt8} (h : baL a = baL b) : a = b := by rw [← baL_list a, h, baL_list]
/-- Two bytes of a number. -/
def twL (n : Nat) : List UInt8 := [UInt8.ofNat (n / 256), UInt8.ofNat (n % 256)]
def keN (r : Ke) : Nat := r.k.toNat + (if r.c = true then 32768 else 0)
def recL (r : Ke) : List UInt8 := twL (keN r) ++ twL r.s.size ++ r.s.data.toList
def catL : List Ke → List UInt8
  | [] => []
  | r :: t => recL r ++ catL t
def tot : List Ke → Nat
  | [] => 0
  | r :: t => 4 + r.s.size + tot t
theorem recL_len (r : Ke) : (recL r).length = 4 + r.s.size := by unfold recL twL; simp only [List.length_append, len_list]; simp
theorem catL_len (l : List Ke) : (catL l).length = tot l := by
  induction l with
  | nil => rfl
  | cons r t ih => rw [catL, tot, List.length_append, recL_len, ih]
theorem catL_app (a b : List Ke) : catL (a ++ b) = catL a ++ catL b := by
  induction a with
  | nil => rfl
  | cons r t ih => rw [List.cons_append, catL, catL, ih, List.append_assoc]
theorem tot_app (a b : List Ke) : tot (a ++ b) = tot a + tot b := by rw [← catL_len, catL_app, List.length_append, catL_len, catL_len]
def okE (r : Ke) : Int := if r.k < 0 ∨ 32767 < r.k then 13 else if 1024 < r.s.size then 12 else 0
def wrE : List Ke → Int
  | [] => 0
  | r :: t => if okE r = 0 then wrE t else okE r
def wrR (l : List Ke) : Int := if wrE l = 0 then (if 2048 < tot l then 12 else 0) else wrE l
def wrS (l : List Ke) : ByteArray := if wrR l = 0 then baL (catL l) else baL []
theorem okE_0 {r : Ke} (h : okE r = 0) : 0 ≤ r.k ∧ r.k ≤ 32767 ∧ r.s.size ≤ 1024 := by
  unfold okE at h
  split at h
  · cases h
  · split at h
    · cases h
    · omega
theorem okE_of {r : Ke} (h : 0 ≤ r.k ∧ r.k ≤ 32767 ∧ r.s.size ≤ 1024) : okE r = 0 := by
  unfold okE; rw [if_neg (by omega), if_neg (by omega)]
theorem wrE_0 {l : List Ke} (h : wrE l = 0) : ∀ r ∈ l, okE r = 0 := by
  induction l with
  | nil => intro r hr; cases hr
  | cons a t ih =>
    unfold wrE at h
    split at h
    · rename_i h0
      intro r hr
      rcases List.mem_cons.1 hr with rfl | hr
      · exact h0
      · exact ih h r hr
    · rename_i h0; exact absurd h h0
theorem wrE_of {l : List Ke} (h : ∀ r ∈ l, okE r = 0) : wrE l = 0 := by
  induction l with
  | nil => rfl
  | cons a t ih => rw [wrE, if_pos (h a List.mem_cons_self), ih (fun r hr => h r (List.mem_cons_of_mem _ hr))]
theorem wrE_snoc_ok (l : List Ke) (r : Ke) (h : wrE l = 0) (h2 : okE r = 0) : wrE (l ++ [r]) = 0 :=
  wrE_of fun q hq => by
    rcases List.mem_append.1 hq with hq | hq
    · exact wrE_0 h q hq
    · rw [List.mem_singleton.1 hq]; exact h2
theorem wrE_at (a : List Ke) (r : Ke) (b : List Ke) (h : wrE a = 0) (h2 : okE r ≠ 0) : wrE (a ++ r :: b) = okE r := by
  induction a with
  | nil => rw [List.nil_append, wrE, if_neg h2]
  | cons x t ih =>
    have h0 := wrE_0 h
    rw [List.cons_append, wrE, if_pos (h0 x List.mem_cons_self)]
    exact ih (wrE_of fun q hq => h0 q (List.mem_cons_of_mem _ hq))
/-- What is read. -/
def rdG : Nat → List UInt8 → Nat → List Ke × List UInt8 × Int
  | f + 1, a :: b :: c :: d :: u, at0 =>
    if 1024 < c.toNat * 256 + d.toNat ∨ 2048 < at0 + 4 + (c.toNat * 256 + d.toNat) then ([], [], 12)
    else if (a.toNat * 256 + b.toNat) % 32768 = 0 ∧ (a.toNat * 256 + b.toNat < 32768 ∨ 0 < c.toNat * 256 + d.toNat) then ([], [], 10)
    else if u.length < c.toNat * 256 + d.toNat then ([], [], 11)
    else if (a.toNat * 256 + b.toNat) % 32768 = 0 then
      ([⟨decide (32768 ≤ a.toNat * 256 + b.toNat), ((a.toNat * 256 + b.toNat) % 32768 : Nat), baL (u.take (c.toNat * 256 + d.toNat))⟩], u.drop (c.toNat * 256 + d.toNat), 0)
    else
      (if (rdG f (u.drop (c.toNat * 256 + d.toNat)) (at0 + 4 + (c.toNat * 256 + d.toNat))).2.2 = 0 then
        (⟨decide (32768 ≤ a.toNat * 256 + b.toNat), ((a.toNat * 256 + b.toNat) % 32768 : Nat), baL (u.take (c.toNat * 256 + d.toNat))⟩ :: (rdG f (u.drop (c.toNat * 256 + d.toNat)) (at0 + 4 + (c.toNat * 256 + d.toNat))).1,
          (rdG f (u.drop (c.toNat * 256 + d.toNat)) (at0 + 4 + (c.toNat * 256 + d.toNat))).2.1, 0)
       else ([], [], (rdG f (u.drop (c.toNat * 256 + d.toNat)) (at0 + 4 + (c.toNat * 256 + d.toNat))).2.2))
  | _, _, _ => ([], [], 11)
def wfK : List Ke → Prop
  | [] => False
  | r :: t => r.s.size ≤ 1024 ∧ 0 ≤ r.k ∧ r.k ≤ 32767 ∧ (if r.k = 0 then r.c = true ∧ r.s.size = 0 ∧ t = [] else wfK t)
theorem u8_nat (n : Nat) (h : n < 256) : (UInt8.ofNat n).toNat = n := by rw [UInt8.toNat_ofNat']; omega
theorem keN_lt (r : Ke) (h : r.k ≤ 32767) : keN r < 65536 := by unfold keN; split <;> omega
theorem keN_mod (r : Ke) (h0 : 0 ≤ r.k) (h : r.k ≤ 32767) : ((keN r % 32768 : Nat) : Int) = r.k := by unfold keN; split <;> omega
theorem keN_c (r : Ke) (h0 : 0 ≤ r.k) (h : r.k ≤ 32767) : decide (32768 ≤ keN r) = r.c := by
  unfold keN
  cases hc : r.c
  · rw [if_neg (by simp)]; exact decide_eq_false (by omega)
  · rw [if_pos rfl]; exact decide_eq_true (by omega)
theorem two_back (n : Nat) (h : n < 65536) : (UInt8.ofNat (n / 256)).toNat * 256 + (UInt8.ofNat (n % 256)).toNat = n := by
  rw [u8_nat _ (by omega), u8_nat _ (by omega)]; omega
theorem byte_lt (a : UInt8) : a.toNat < 256 := a.toNat_lt
theorem two_of (a b : UInt8) : twL (a.toNat * 256 + b.toNat) = [a, b] := by
  unfold twL
  have ha := byte_lt a
  have hb := byte_lt b
  rw [show (a.toNat * 256 + b.toNat) / 256 = a.toNat by omega, show (a.toNat * 256 + b.toNat) % 256 = b.toNat by omega]
  simp
/-- What is well formed is read as it was. -/
theorem rdG_complete (rest : List UInt8) (l : List Ke) : ∀ (f at0 : Nat), wfK l → at0 + tot l ≤ 2048 → l.length ≤ f → rdG f (catL l ++ rest) at0 = (l, rest, 0) := by
  induction l with
  | nil => intro f at0 h; exact absurd h id
  | cons r t ih =>
    intro f at0 hw ht hf
    obtain ⟨h1, h2, h3, h4⟩ := hw
    cases f with
    | zero => cases hf
    | succ f =>
      have kl := keN_lt r h3
      have km := keN_mod r h2 h3
      have kc := keN_c r h2 h3
      have e1 := two_back (keN r) kl
      have e2 := two_back r.s.size (by omega)
      rw [tot] at ht
      rw [catL, recL, twL, twL]
      simp only [List.cons_append, List.nil_append, List.append_assoc]
      rw [rdG, e1, e2, if_neg (by omega)]
      have dr : (r.s.data.toList ++ (catL t ++ rest)).drop r.s.size = catL t ++ rest := by
        rw [List.drop_append_of_le_length (by rw [len_list]; omega), List.drop_eq_nil_of_le (by rw [len_list]; omega)]; rfl
      have tk : (r.s.data.toList ++ (catL t ++ rest)).take r.s.size = r.s.data.toList := by
        rw [List.take_append_of_le_length (by rw [len_list]; omega), List.take_of_length_le (by rw [len_list]; omega)]
      have ln : ¬ (r.s.data.toList ++ (catL t ++ rest)).length < r.s.size := by rw [List.length_append, len_list]; omega
      have hr : (⟨decide (32768 ≤ keN r), ((keN r % 32768 : Nat) : Int), baL r.s.data.toList⟩ : Ke) = r := Ke.ext' kc km (baL_of _)
      rw [dr, tk, hr]
      by_cases h0 : r.k = 0
      · rw [if_pos h0] at h4
        obtain ⟨g1, g2, rfl⟩ := h4
        have kz : keN r % 32768 = 0 := by omega
        rw [if_neg (by rw [← kc] at g1; have := of_decide_eq_true g1; omega), if_neg ln, if_pos kz]
        simp [catL]
      · rw [if_neg h0] at h4
        rw [if_neg (by omega), if_neg ln, if_neg (by omega), ih f (at0 + 4 + r.s.size) h4 (by omega) (by simpa using hf), if_pos rfl]
/-- What is read stands so. -/
theorem rdG_sound (f : Nat) : ∀ (t : List UInt8) (at0 : Nat) (l : List Ke) (rest : List UInt8), rdG f t at0 = (l, rest, 0) → t = catL l ++ rest ∧ wfK l ∧ at0 + tot l ≤ 2048 ∧ l.length ≤ f := by
  induction f with
  | zero => intro t at0 l rest h; rw [rdG] at h; cases h; intro; simp
  | succ f ih =>
    intro t at0 l rest h
    match t with
    | [] => rw [rdG] at h; cases h; simp
    | [a] => rw [rdG] at h; cases h; simp
    | [a, b] => rw [rdG] at h; cases h; simp
    | [a, b, c] => rw [rdG] at h; cases h; simp
    | a :: b :: c :: d :: u =>
      rw [rdG] at h
      have la := byte_lt a
      have lb := byte_lt b
      have tA := two_of a b
      have tC := two_of c d
      generalize hk : a.toNat * 256 + b.toNat = k at *
      generalize hn : c.toNat * 256 + d.toNat = n at *
      split at h
      · cases h
      rename_i c1
      split at h
      · cases h
      rename_i c2
      split at h
      · cases h
      rename_i c3
      have bs : (baL (u.take n)).size = n := by rw [baL_size, List.length_take]; omega
      have hN : keN ⟨decide (32768 ≤ k), ((k % 32768 : Nat) : Int), baL (u.take n)⟩ = k := by
        show ((k % 32768 : Nat) : Int).toNat + (if decide (32768 ≤ k) = true then 32768 else 0) = k
        by_cases hq : 32768 ≤ k
        · rw [decide_eq_true hq, if_pos rfl]; omega
        · rw [decide_eq_false hq, if_neg (by simp)]; omega
      have hR : a :: b :: c :: d :: u = recL ⟨decide (32768 ≤ k), ((k % 32768 : Nat) : Int), baL (u.take n)⟩ ++ u.drop n := by
        rw [recL, hN, tA]
        show _ = [a, b] ++ twL (baL (u.take n)).size ++ u.take n ++ u.drop n
        rw [bs, tC]
        simp
      split at h
      · rename_i c4
        simp only [Prod.mk.injEq] at h
        obtain ⟨rfl, rfl, _⟩ := h
        refine ⟨by rw [catL, catL, List.append_nil]; exact hR, ⟨by rw [bs]; omega, by show (0 : Int) ≤ ((k % 32768 : Nat) : Int); omega, by show ((k % 32768 : Nat) : Int) ≤ 32767; omega, ?_⟩, ?_, by simp⟩
        · rw [if_pos (by show ((k % 32768 : Nat) : Int) = 0; omega)]
          exact ⟨by show decide _ = true; exact decide_eq_true (by omega), by rw [bs]; omega, rfl⟩
        · show at0 + (4 + (baL (u.take n)).size + 0) ≤ 2048
          rw [bs]; omega
      · rename_i c4
        split at h
        · rename_i c5
          obtain ⟨h1, h2, h3, h4⟩ := ih _ _ _ _ (show rdG f (u.drop n) (at0 + 4 + n) = ((rdG f (u.drop n) (at0 + 4 + n)).1, (rdG f (u.drop n) (at0 + 4 + n)).2.1, 0) by rw [← c5])
          simp only [Prod.mk.injEq] at h
          obtain ⟨rfl, rfl, _⟩ := h
          refine ⟨?_, ⟨by rw [bs]; omega, by show (0 : Int) ≤ ((k % 32768 : Nat) : Int); omega, by show ((k % 32768 : Nat) : Int) ≤ 32767; omega, ?_⟩, ?_, by simpa using h4⟩
          · rw [catL, List.append_assoc, ← h1]; exact hR
          · rw [if_neg (by show ¬ ((k % 32768 : Nat) : Int) = 0; omega)]; exact h2
          · show at0 + (4 + (baL (u.take n)).size + tot _) ≤ 2048
            rw [bs]; omega
        · rename_i c5
          have := congrArg (fun q : List Ke × List UInt8 × Int => q.2.2) h
          exact absurd this c5
/-- Each beginning that is less ends too early. -/
theorem rdG_less (q : List UInt8) (hq : q ≠ []) (l : List Ke) : ∀ (f at0 : Nat) (p : List UInt8), wfK l → at0 + tot l ≤ 2048 → l.length ≤ f → p ++ q = catL l → rdG f p at0 = ([], [], 11) := by
  induction l with
  | nil => intro f at0 p h; exact absurd h id
  | cons r t ih =>
    intro f at0 p hw ht hf he
    obtain ⟨h1, h2, h3, h4⟩ := hw
    cases f with
    | zero => cases hf
    | succ f =>
      match p with
      | [] => rw [rdG]; simp
      | [a] => rw [rdG]; simp
      | [a, b] => rw [rdG]; simp
      | [a, b, c] => rw [rdG]; simp
      | a :: b :: c :: d :: u =>
        have kl := keN_lt r h3
        have km := keN_mod r h2 h3
        have kc := keN_c r h2 h3
        have e1 := two_back (keN r) kl
        have e2 := two_back r.s.size (by omega)
        rw [tot] at ht
        rw [catL, recL, twL, twL] at he
        simp only [List.cons_append, List.nil_append, List.append_assoc, List.cons.injEq] at he
        obtain ⟨rfl, rfl, rfl, rfl, he⟩ := he
        rw [rdG, e1, e2, if_neg (by omega)]
        by_cases hu : u.length < r.s.size
        · by_cases h0 : r.k = 0
          · rw [if_pos h0] at h4; omega
          · rw [if_neg (by omega), if_pos hu]
        · have hu2 : u = r.s.data.toList ++ u.drop r.s.size := by
            have := congrArg (List.take r.s.size) he
            rw [List.take_append_of_le_length (by omega), List.take_append_of_le_length (by rw [len_list]; omega), List.take_of_length_le (l := r.s.data.toList) (by rw [len_list]; omega)] at this
            rw [← this, List.take_append_drop]
          have hd : u.drop r.s.size ++ q = catL t := by
            rw [hu2, List.append_assoc] at he
            exact List.append_cancel_left he
          by_cases h0 : r.k = 0
          · rw [if_pos h0] at h4
            obtain ⟨_, _, rfl⟩ := h4
            rw [catL] at hd
            exact absurd (List.append_eq_nil_iff.1 hd).2 hq
          · rw [if_neg h0] at h4
            rw [if_neg (by omega), if_neg hu, if_neg (by omega), ih f (at0 + 4 + r.s.size) _ h4 (by omega) (by simpa using hf) hd]
            simp
/-- Records up to the end's, written, are read. -/
theorem wf_all (l : List Ke) (h : ∀ r ∈ l, okE r = 0 ∧ r.k ≠ 0) : wfK (l ++ [⟨true, 0, baL []⟩]) := by
  induction l with
  | nil => exact ⟨by decide, by decide, by decide, by simp [baL_size]⟩
  | cons r t ih =>
    obtain ⟨h1, h2⟩ := h r List.mem_cons_self
    obtain ⟨a, b, c⟩ := okE_0 h1
    refine ⟨c, a, b, ?_⟩
    rw [if_neg h2]
    exact ih fun q hq => h q (List.mem_cons_of_mem _ hq)
theorem wf_ok (l : List Ke) (h : wfK l) : wrE l = 0 := by
  induction l with
  | nil => rfl
  | cons r t ih =>
    obtain ⟨h1, h2, h3, h4⟩ := h
    rw [wrE, if_pos (okE_of ⟨h2, h3, h1⟩)]
    by_cases h0 : r.k = 0
    · rw [if_pos h0] at h4; rw [h4.2.2]; rfl
    · rw [if_neg h0] at h4; exact ih h4
theorem tot_len (l : List Ke) : 4 * l.length ≤ tot l := by
  induction l with
  | nil => exact Nat.le_refl _
  | cons r t ih => rw [tot, List.length_cons]; omega
/-- Numbers, two bytes each. -/
def inW (n : Int) : Bool := decide (0 ≤ n) && decide (n ≤ 65535)
def prL : List Int → List UInt8
  | [] => []
  | n :: t => twL n.toNat ++ prL t
def prE (l : List Int) : Int := if 512 < l.length then 18 else if l.all inW = true then 0 else 13
def prS (l : List Int) : ByteArray := if prE l = 0 then baL (prL l) else baL []
theorem prL_app (a b : List Int) : prL (a ++ b) = prL a ++ prL b := by
  induction a with
  | nil => rfl
  | cons n t ih => rw [List.cons_append, prL, prL, ih, List.append_assoc]
theorem prL_len (l : List Int) : (prL l).length = 2 * l.length := by
  induction l with
  | nil => rfl
  | cons n t ih => rw [prL, List.length_append, ih, List.length_cons]; show 2 + _ = _; omega
def tpL : List UInt8 → List Int
  | a :: b :: t => ((a.toNat * 256 + b.toNat : Nat) : Int) :: tpL t
  | _ => []
def tpE (n : Nat) : Int := if n % 2 = 1 then 10 else if 1024 < n then 12 else 0
def tpR (s : ByteArray) : List Int := if tpE s.size = 0 then tpL s.data.toList else []
theorem tpL_back (l : List Int) (h : l.all inW = true) : tpL (prL l) = l := by
  induction l with
  | nil => rfl
  | cons n t ih =>
    rw [List.all_cons, Bool.and_eq_true] at h
    have hn := h.1
    unfold inW at hn
    rw [Bool.and_eq_true, decide_eq_true_iff, decide_eq_true_iff] at hn
    rw [prL, twL]
    simp only [List.cons_append, List.nil_append]
    rw [tpL, two_back _ (by omega), ih h.2]
    congr 1
    omega
theorem pr_back (l : List Int) (h : prE l = 0) : tpE (prS l).size = 0 ∧ tpR (prS l) = l := by
  have h' := h
  unfold prE at h
  split at h
  · cases h
  rename_i h1
  split at h
  · rename_i h2
    have e : prS l = baL (prL l) := by unfold prS; rw [if_pos h']
    have z : tpE (prS l).size = 0 := by rw [e, baL_size, prL_len]; unfold tpE; rw [if_neg (by omega), if_neg (by omega)]
    refine ⟨z, ?_⟩
    unfold tpR
    rw [if_pos z, e, baL_list, tpL_back l h2]
  · cases h
/-- Those of a kind; the first one that must be known and is not. -/
def fdL (l : List Ke) (k : Int) : List Ke := l.filter fun r => decide (r.k = k)
def unB (r : Ke) : Bool := r.c && (decide (r.k < 0) || decide (8 ≤ r.k))
def unI : List Ke → Nat → Int
  | [], _ => -1
  | r :: t, i => if unB r = true then (i : Int) else unI t (i + 1)
theorem unI_at (a : List Ke) (r : Ke) (b : List Ke) (h : ∀ q ∈ a, unB q = false) : ∀ i, unI (a ++ r :: b) i = if unB r = true then ((i + a.length : Nat) : Int) else unI b (i + a.length + 1) := by
  induction a with
  | nil => intro i; rfl
  | cons x t ih =>
    intro i
    rw [List.cons_append, unI, h x List.mem_cons_self, if_neg (by simp), ih (fun q hq => h q (List.mem_cons_of_mem _ hq)), List.length_cons]
    rw [show i + 1 + t.length = i + (t.length + 1) by omega]
theorem unI_none (a : List Ke) (h : ∀ q ∈ a, unB q = false) : ∀ i, unI a i = -1 := by
  induction a with
  | nil => intro i; rfl
  | cons x t ih => intro i; rw [unI, h x List.mem_cons_self, if_neg (by simp)]; exact ih (fun q hq => h q (List.mem_cons_of_mem _ hq)) _
/-- Whether two are the same. -/
def keB (a b : Ke) : Bool := (a.c == b.c) && (decide (a.k = b.k) && decide (a.s.data.toList = b.s.data.toList))
theorem keB_iff (a b : Ke) : keB a b = true ↔ a = b := by
  unfold keB
  rw [Bool.and_eq_true, Bool.and_eq_true, beq_iff_eq, decide_eq_true_iff, decide_eq_true_iff]
  exact ⟨fun ⟨h1, h2, h3⟩ => Ke.ext' h1 h2 (ba_ext h3), fun h => by subst h; exact ⟨rfl, rfl, rfl⟩⟩
def kesB (a b : List Ke) : Bool := decide (a.length = b.length) && (List.zip a b).all fun p => keB p.1 p.2
theorem kesB_iff (a b : List Ke) : kesB a b = true ↔ a = b := by
  unfold kesB
  rw [Bool.and_eq_true, decide_eq_true_iff, List.all_eq_true]
  constructor
  · rintro ⟨h1, h2⟩
    apply List.ext_getElem?
    intro i
    by_cases hi : i < a.length
    · have hi' : i < b.length := by omega
      rw [List.getElem?_eq_getElem hi, List.getElem?_eq_getElem hi']
      have hz : i < (List.zip a b).length := by rw [List.length_zip]; omega
      have := h2 _ (List.getElem_mem hz)
      rw [List.getElem_zip] at this
      exact congrArg some ((keB_iff _ _).1 this)
    · rw [List.getElem?_eq_none (by omega), List.getElem?_eq_none (by omega)]
  · intro h
    subst h
    refine ⟨rfl, fun p hp => ?_⟩
    obtain ⟨i, hi, rfl⟩ := List.getElem_of_mem hp
    rw [List.getElem_zip]
    exact (keB_iff _ _).2 rfl
theorem kesB_self (a : List Ke) : kesB a a = true := (kesB_iff a a).2 rfl
end Go.Proofs.Ytndfcecimckioaa
