/- DerOrder: times as texts, one ahead of another; numbers that stand alike. -/
import Derived.Test.YtajdfjpcobaioaaDoorL2
set_option linter.all false
set_option maxRecDepth 100000
namespace Go.Proofs.YtajdfjpcobaioaaDoor
open Go.RowKit Go.Sort
/- Texts of digits, one ahead of another. -/
def vF : Int → List Int → Int
  | a, [] => a
  | a, x :: l => vF (10 * a + (x - 48)) l
theorem vF_app (l m : List Int) : ∀ a, vF a (l ++ m) = vF (vF a l) m := by
  induction l with
  | nil => intro a; rfl
  | cons x l ih => intro a; exact ih _
def Dgt (l : List Int) : Prop := ∀ x ∈ l, 48 ≤ x ∧ x ≤ 57
theorem vF_lt (l m : List Int) (hl : Dgt l) (hm : Dgt m) (hn : l.length = m.length) : ∀ a b, a < b → vF a l < vF b m := by
  induction l generalizing m with
  | nil => intro a b h; rw [List.eq_nil_of_length_eq_zero hn.symm]; exact h
  | cons x l ih =>
    intro a b h
    cases m with
    | nil => simp at hn
    | cons y m =>
      have hx := hl x (List.mem_cons_self ..)
      have hy := hm y (List.mem_cons_self ..)
      exact ih m (fun z hz => hl z (List.mem_cons_of_mem _ hz)) (fun z hz => hm z (List.mem_cons_of_mem _ hz)) (by simpa using hn) _ _ (by omega)
theorem less_is (l m r : List Int) (hl : Dgt l) (hm : Dgt m) (hn : l.length = m.length) : ∀ a, Op.bytesLess ((l ++ r).map fun n => UInt8.ofNat n.toNat) ((m ++ r).map fun n => UInt8.ofNat n.toNat) = decide (vF a l < vF a m) := by
  induction l generalizing m with
  | nil =>
    intro a
    rw [List.eq_nil_of_length_eq_zero hn.symm, decide_eq_false (by omega)]
    induction r with
    | nil => rfl
    | cons x r ih =>
      simp only [List.nil_append, List.map_cons, Op.bytesLess] at ih ⊢
      rw [ih]; simp
  | cons x l ih =>
    intro a
    cases m with
    | nil => simp at hn
    | cons y m =>
      have hx := hl x (List.mem_cons_self ..)
      have hy := hm y (List.mem_cons_self ..)
      have hl' : Dgt l := fun z hz => hl z (List.mem_cons_of_mem _ hz)
      have hm' : Dgt m := fun z hz => hm z (List.mem_cons_of_mem _ hz)
      have hn' : l.length = m.length := by simpa using hn
      have ux : (UInt8.ofNat x.toNat).toNat = x.toNat := by rw [UInt8.toNat_ofNat']; omega
      have uy : (UInt8.ofNat y.toNat).toNat = y.toNat := by rw [UInt8.toNat_ofNat']; omega
      simp only [List.cons_append, List.map_cons, Op.bytesLess]
      show _ = decide (vF (10 * a + (x - 48)) l < vF (10 * a + (y - 48)) m)
      rcases Int.lt_trichotomy x y with c | c | c
      · have : UInt8.ofNat x.toNat < UInt8.ofNat y.toNat := by rw [UInt8.lt_iff_toNat_lt, ux, uy]; omega
        rw [decide_eq_true this, decide_eq_true (vF_lt l m hl' hm' hn' _ _ (by omega))]; rfl
      · subst c
        rw [ih m hl' hm' hn' (10 * a + (x - 48))]
        simp
      · have h1 : ¬ UInt8.ofNat x.toNat < UInt8.ofNat y.toNat := by rw [UInt8.lt_iff_toNat_lt, ux, uy]; omega
        have h2 : (UInt8.ofNat x.toNat == UInt8.ofNat y.toNat) = false := by
          rw [beq_eq_false_iff_ne]; intro h; have := congrArg UInt8.toNat h; rw [ux, uy] at this; omega
        have h3 := vF_lt m l hm' hl' hn'.symm (10 * a + (y - 48)) (10 * a + (x - 48)) (by omega)
        rw [decide_eq_false h1, h2, decide_eq_false (by omega)]; rfl
theorem vF_2 (a n : Int) (h0 : 0 ≤ n) (h1 : n < 100) : vF a (dgs 2 n) = a * 100 + n := by simp [dgs, vF]; omega
theorem vF_4 (n : Int) (h0 : 0 ≤ n) (h1 : n < 10000) : vF 0 (dgs 4 n) = n := by simp [dgs, vF]; omega
def tmD (t : Int) : List Int := dgs 4 (tY t) ++ (dgs 2 (tM t) ++ (dgs 2 (tQ t) ++ (dgs 2 (tS t / 3600) ++ (dgs 2 (tS t / 60 % 60) ++ dgs 2 (tS t % 60)))))
theorem timL_D (t : Int) : timL t = tmD t ++ [90] := by unfold timL tmL tmD; simp only [List.append_assoc]
theorem tmD_dgt (t : Int) : Dgt (tmD t) := fun x hx => by
  unfold tmD at hx
  simp only [List.mem_append] at hx
  rcases hx with h | h | h | h | h | h <;> exact dgs_bd _ _ _ h
theorem tmD_len (t : Int) : (tmD t).length = 14 := by unfold tmD; simp [dgs_len]
theorem tmD_val (t : Int) (h0 : LT ≤ t) (h1 : t ≤ MT) : vF 0 (tmD t) = tN t := by
  have c := cal_of t h0 h1
  have hq := mD_bd (tY t) (tM t)
  have y0 := c.y0; have y1 := c.y1; have m0 := c.m0; have m1 := c.m1; have q0 := c.d0; have q1 := c.d1; have a0 := c.h0; have a1 := c.h1; have b0 := c.i0; have b1 := c.i1; have s0 := c.s0; have s1 := c.s1
  unfold tmD tN
  rw [vF_app, vF_app, vF_app, vF_app, vF_app, vF_4 _ (by omega) (by omega), vF_2 _ _ (by omega) (by omega), vF_2 _ _ (by omega) (by omega), vF_2 _ _ (by omega) (by omega), vF_2 _ _ (by omega) (by omega), vF_2 _ _ (by omega) (by omega)]
theorem tim_less (t u : Int) (a0 : LT ≤ t) (a1 : t ≤ MT) (b0 : LT ≤ u) (b1 : u ≤ MT) : Op.bytesLess (mkS (timL t)).toList (mkS (timL u)).toList = decide (t < u) := by
  rw [ByteArray.toList_eq, ByteArray.toList_eq, mkS_list, mkS_list, timL_D, timL_D, less_is _ _ _ (tmD_dgt t) (tmD_dgt u) (by rw [tmD_len, tmD_len]) 0, tmD_val t a0 a1, tmD_val u b0 b1]
  have := tN_iff t u a0 a1 b0 b1
  by_cases h : t < u
  · rw [decide_eq_true h, decide_eq_true (this.1 h)]
  · rw [decide_eq_false h, decide_eq_false (fun c => h (this.2 c))]
theorem V4_lim (N : Int) (h0 : 0 ≤ N) (h1 : N < 115792089237316195423570985008687907853269984665640564039457584007913129639936) : V4 (lim N 0) (lim N 1) (lim N 2) (lim N 3) = N := by
  rw [lim0, lim1, lim2, lim3]; unfold V4; omega

theorem nv_inj (A B : Int) (hA : 0 ≤ A) (hA' : A < top256) (hB : 0 ≤ B) (hB' : B < top256) (h : (lim A 0 == lim B 0 && (lim A 1 == lim B 1 && (lim A 2 == lim B 2 && lim A 3 == lim B 3))) = true) : A = B := by
  simp at h
  have e := fun N h0 h1 => V4_lim N h0 h1
  rw [← e A hA hA', ← e B hB hB', h.1, h.2.1, h.2.2.1, h.2.2.2]
theorem order_walk (t u A B : Int) (hA : 0 ≤ A) (hA' : A < top256) (hB : 0 ≤ B) (hB' : B < top256) (w : World) (hT : Tab w) : Calls Tryd.prog 6 #[.int .i64 t, .int .i64 u, nv A, nv B] w fun e w' => e = .returned (.bool true) ∧ Below w.heap.size w w' := by
  have T : ∀ x : Int, ∃ (X : ByteArray) (e : Int), (∀ W, Tab W → Calls Tryd.prog 22 #[.int .i64 x] W fun e' w' => e' = .returned (.tuple #[.string X, .int .i64 e]) ∧ Below W.heap.size W w') ∧ (e = 0 → LT ≤ x ∧ x ≤ MT ∧ X = mkS (timL x)) := fun x => by
    by_cases c : LT ≤ x ∧ x ≤ MT
    · exact ⟨_, _, fun W hW => time_yes x c.1 c.2 W hW, fun _ => ⟨c.1, c.2, rfl⟩⟩
    · exact ⟨_, 13, fun W _ => time_no x (by unfold LT MT at c; omega) W, fun h => absurd h (by decide)⟩
  obtain ⟨X, e, T1, hX⟩ := T t
  obtain ⟨Y, f, T2, hY⟩ := T u
  have vA := bgL_val A hA hA'
  have vB := bgL_val B hB hB'
  have bA := ti_iL (dz (bgL A)) (dz_bys _ (bgL_bys A)) (dz_len A) (fun x r h => dz_head _ x r h)
  have bB := ti_iL (dz (bgL B)) (dz_bys _ (bgL_bys B)) (dz_len B) (fun x r h => dz_head _ x r h)
  refine order_core t u (lim A 0) (lim A 1) (lim A 2) (lim A 3) (lim B 0) (lim B 1) (lim B 2) (lim B 3) (mkS (inL A)) (mkS (inL B)) X Y e f (sg A B) (decide (A = B)) (decide (t < u)) w hT ?_ (fun W => ?_) (fun h => ?_) (fun he hf => ⟨rfl, ?_⟩) T1 T2 (fun W => int_any A hA hA' W) (fun W => int_any B hB hB' W) (fun W => refCmp_any A B hA hA' hB hB' W) (fun W h => awake_any W h)
  · by_cases c : A = B
    · subst c; simp
    · rw [decide_eq_false c, beq_eq_false_iff_ne]
      intro h
      rw [ByteArray.toList_eq, ByteArray.toList_eq] at h
      have h2 := mkS_inj _ _ (inL_bys A) (inL_bys B) (ba_ext h)
      have h3 : dz (bgL A) = dz (bgL B) := by rw [← bA.2, ← bB.2]; unfold inL at h2; rw [h2]
      exact c (by rw [← vA, ← vB, ← dz_val (bgL A), ← dz_val (bgL B), h3])
  · rw [eq24]
    congr 1
    by_cases c : A = B
    · subst c; simp
    · rw [decide_eq_false c]
      cases hh : (lim A 0 == lim B 0 && (lim A 1 == lim B 1 && (lim A 2 == lim B 2 && lim A 3 == lim B 3))) with
      | false => rfl
      | true => exact absurd (nv_inj A B hA hA' hB hB' hh) c
  · have hle : A ≤ B := by unfold sg at h; split at h <;> (try split at h) <;> omega
    rw [mkS_size, mkS_size]
    have := iL_len (bgL A) (bgL B) (bgL_bys A) (bgL_bys B) (by rw [vA, vB]; exact hle)
    unfold inL
    omega
  · obtain ⟨x0, x1, rfl⟩ := hX he
    obtain ⟨y0, y1, rfl⟩ := hY hf
    exact tim_less t u x0 x1 y0 y1
end Go.Proofs.YtajdfjpcobaioaaDoor
