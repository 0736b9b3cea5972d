/- Times as texts. -/
import Derived.Test.YtajdfjpcobaioaaGreatDoorD8
import Derived.Test.YtajdfjpcobaioaaGreatDoorD9
set_option linter.all false
set_option maxRecDepth 100000
namespace Go.Proofs.YtajdfjpcobaioaaGreatDoor
open Go.RowKit Go.Sort
theorem time_no (t : Int) (h : t < -62135596800 ∨ 253402300799 < t) (w : World) : Calls Tryz.prog 10 #[.int .i64 t] w fun e w' => e = .returned (.tuple #[.string ⟨#[]⟩, .int .i64 13]) ∧ Below w.heap.size w w' := by
  rcases h with h | h
  · go_enter Tryz.func10, Tryz.ntmps10
    go_wp2_with fail
    exact bodyPost_ret (v := .tuple #[.string ⟨#[]⟩, .int .i64 13]) (by simp [results, Tryz.results10, go_sem]) rfl ⟨rfl, by go_grown⟩
  · have h' : ¬ t < -62135596800 := by omega
    go_enter Tryz.func10, Tryz.ntmps10
    go_wp2_with fail
    exact bodyPost_ret (v := .tuple #[.string ⟨#[]⟩, .int .i64 13]) (by simp [results, Tryz.results10, go_sem]) rfl ⟨rfl, by go_grown⟩
theorem time_core (t D s y m q : Int) (S0 S1 S2 S3 S4 S5 F : ByteArray) (h0 : -62135596800 ≤ t) (h1 : t ≤ 253402300799) (hD : (t + 62135596800) / 86400 = D) (hs : (t + 62135596800) % 86400 = s)
    (z0 : S0.size = 4) (z1 : S1.size = 2) (z2 : S2.size = 2) (z3 : S3.size = 2) (z4 : S4.size = 2) (z5 : S5.size = 2) (hF : Hid ((((((S0 ++ S1) ++ S2) ++ S3) ++ S4) ++ S5) ++ ⟨#[90]⟩ = F))
    (C41 : ∀ W, Calls Tryz.prog 26 #[.int .i64 D] W fun e w' => e = .returned (.tuple #[.int .i64 y, .int .i64 m, .int .i64 q]) ∧ Below W.heap.size W w')
    (D0 : ∀ W, Tab W → Calls Tryz.prog 27 #[.int .i64 y, .int .i64 4] W fun e w' => e = .returned (.string S0) ∧ Below W.heap.size W w')
    (D1 : ∀ W, Calls Tryz.prog 27 #[.int .i64 m, .int .i64 2] W fun e w' => e = .returned (.string S1) ∧ Below W.heap.size W w')
    (D2 : ∀ W, Calls Tryz.prog 27 #[.int .i64 q, .int .i64 2] W fun e w' => e = .returned (.string S2) ∧ Below W.heap.size W w')
    (D3 : ∀ W, Calls Tryz.prog 27 #[.int .i64 (s / 3600), .int .i64 2] W fun e w' => e = .returned (.string S3) ∧ Below W.heap.size W w')
    (D4 : ∀ W, Calls Tryz.prog 27 #[.int .i64 (s / 60 % 60), .int .i64 2] W fun e w' => e = .returned (.string S4) ∧ Below W.heap.size W w')
    (D5 : ∀ W, Calls Tryz.prog 27 #[.int .i64 (s % 60), .int .i64 2] W fun e w' => e = .returned (.string S5) ∧ Below W.heap.size W w') (w : World) (hT : Tab w) :
    Calls Tryz.prog 10 #[.int .i64 t] w fun e w' => e = .returned (.tuple #[.string F, .int .i64 0]) ∧ Below w.heap.size w w' := by
  have s0 : 0 ≤ s := by omega
  have s1 : s < 86400 := by omega
  have a1 := add_s S0 S1 (by omega)
  have zt1 : (S0 ++ S1).size = 6 := by rw [ByteArray.size_append]; omega
  have e1 : Hid (S0 ++ S1 = S0 ++ S1) := rfl
  have a2 := add_s (S0 ++ S1) S2 (by omega)
  have zt2 : ((S0 ++ S1) ++ S2).size = 8 := by rw [ByteArray.size_append]; omega
  have e2 : Hid ((S0 ++ S1) ++ S2 = (S0 ++ S1) ++ S2) := rfl
  have a3 := add_s ((S0 ++ S1) ++ S2) S3 (by omega)
  have zt3 : (((S0 ++ S1) ++ S2) ++ S3).size = 10 := by rw [ByteArray.size_append]; omega
  have e3 : Hid (((S0 ++ S1) ++ S2) ++ S3 = ((S0 ++ S1) ++ S2) ++ S3) := rfl
  have a4 := add_s (((S0 ++ S1) ++ S2) ++ S3) S4 (by omega)
  have zt4 : ((((S0 ++ S1) ++ S2) ++ S3) ++ S4).size = 12 := by rw [ByteArray.size_append]; omega
  have e4 : Hid ((((S0 ++ S1) ++ S2) ++ S3) ++ S4 = (((S0 ++ S1) ++ S2) ++ S3) ++ S4) := rfl
  have a5 := add_s ((((S0 ++ S1) ++ S2) ++ S3) ++ S4) S5 (by omega)
  have zt5 : (((((S0 ++ S1) ++ S2) ++ S3) ++ S4) ++ S5).size = 14 := by rw [ByteArray.size_append]; omega
  have e5 : Hid (((((S0 ++ S1) ++ S2) ++ S3) ++ S4) ++ S5 = ((((S0 ++ S1) ++ S2) ++ S3) ++ S4) ++ S5) := rfl
  have a6 := add_s (((((S0 ++ S1) ++ S2) ++ S3) ++ S4) ++ S5) ⟨#[90]⟩ (by have : (⟨#[90]⟩ : ByteArray).size = 1 := rfl; omega)
  clear e1 e2 e3 e4 e5 zt1 zt2 zt3 zt4 zt5
  go_enter Tryz.func10, Tryz.ntmps10
  go_wp2_with fail
  refine (C41 _).mono ?_
  rintro e w1 ⟨rfl, hB⟩
  clear C41
  go_wp2_with fail
  refine (D0 _ (hT.to hB)).mono ?_
  rintro e x0 ⟨rfl, hb⟩
  replace hB := Bel.call hB hb
  clear hb D0
  go_wp2_with fail
  refine (D1 _).mono ?_
  rintro e x1 ⟨rfl, hb⟩
  replace hB := Bel.call hB hb
  clear hb D1
  go_wp2_with fail
  refine (D2 _).mono ?_
  rintro e x2 ⟨rfl, hb⟩
  replace hB := Bel.call hB hb
  clear hb D2
  go_wp2_with fail
  refine (D3 _).mono ?_
  rintro e x3 ⟨rfl, hb⟩
  replace hB := Bel.call hB hb
  clear hb D3
  go_wp2_with fail
  refine (D4 _).mono ?_
  rintro e x4 ⟨rfl, hb⟩
  replace hB := Bel.call hB hb
  clear hb D4
  go_wp2_with fail
  refine (D5 _).mono ?_
  rintro e x5 ⟨rfl, hb⟩
  replace hB := Bel.call hB hb
  clear hb D5
  go_wp2_with fail
  exact bodyPost_ret (v := .tuple #[.string F, .int .i64 0]) (by rw [← hF.out]; simp [results, Tryz.results10, go_sem]) rfl ⟨rfl, hB⟩
/-- Six numbers as a time stands. -/
def tmL (y m d h i s : Int) : List Int := dgs 4 y ++ (dgs 2 m ++ (dgs 2 d ++ (dgs 2 h ++ (dgs 2 i ++ (dgs 2 s ++ [90])))))
def timL (t : Int) : List Int := tmL (tY t) (tM t) (tQ t) (tS t / 3600) (tS t / 60 % 60) (tS t % 60)
theorem time_yes (t : Int) (h0 : LT ≤ t) (h1 : t ≤ MT) (w : World) (hT : Tab w) : Calls Tryz.prog 10 #[.int .i64 t] w fun e w' => e = .returned (.tuple #[.string (mkS (timL t)), .int .i64 0]) ∧ Below w.heap.size w w' := by
  have c := cal_of t h0 h1
  have d := tD_bd t h0 h1
  have hq := mD_bd (tY t) (tM t)
  have y0 := c.y0; have y1 := c.y1; have m0 := c.m0; have m1 := c.m1; have q0 := c.d0; have q1 := c.d1; have a0 := c.h0; have a1 := c.h1; have b0 := c.i0; have b1 := c.i1; have s0 := c.s0; have s1 := c.s1
  have C41 := fun W => dateOf_any (tD t) d.1 d.2 W
  have D : ∀ (n : Int) (k : Nat) W, 0 ≤ n → 1 ≤ k → k ≤ 4 → n < 10 ^ k → (n < 100 ∨ Tab W) → Calls Tryz.prog 27 #[.int .i64 n, .int .i64 k] W fun e w' => e = .returned (.string (mkS (dgs k n))) ∧ Below W.heap.size W w' := fun n k W n0 k1 k4 nk hT => by
    obtain ⟨m, rfl⟩ := Int.eq_ofNat_of_zero_le n0
    exact digits_any m k k1 k4 (by exact_mod_cast nk) W (hT.imp (fun h => by omega) id)
  have eF : Hid (mkS (dgs 4 (tY t)) ++ mkS (dgs 2 (tM t)) ++ mkS (dgs 2 (tQ t)) ++ mkS (dgs 2 (tS t / 3600)) ++ mkS (dgs 2 (tS t / 60 % 60)) ++ mkS (dgs 2 (tS t % 60)) ++ ⟨#[90]⟩ = mkS (timL t)) := by
    have e9 : (⟨#[90]⟩ : ByteArray) = mkS [90] := by apply ba_ext; rfl
    unfold Hid timL tmL
    rw [e9]
    simp only [mkS_app, List.append_assoc]
  have sz : ∀ k n, (mkS (dgs k n)).size = k := fun k n => by rw [mkS_size, dgs_len]
  exact time_core t (tD t) (tS t) (tY t) (tM t) (tQ t) _ _ _ _ _ _ _ (by unfold LT at h0; exact h0) (by unfold MT at h1; exact h1) (by unfold tD LT; congr 1) (by unfold tS LT; congr 1)
    (sz _ _) (sz _ _) (sz _ _) (sz _ _) (sz _ _) (sz _ _) eF C41
    (fun W hW => D (tY t) 4 W (by omega) (by omega) (by omega) (by simp; omega) (.inr hW))
    (fun W => D (tM t) 2 W (by omega) (by omega) (by omega) (by simp; omega) (.inl (by omega)))
    (fun W => D (tQ t) 2 W (by omega) (by omega) (by omega) (by simp; omega) (.inl (by omega)))
    (fun W => D (tS t / 3600) 2 W (by omega) (by omega) (by omega) (by simp; omega) (.inl (by omega)))
    (fun W => D (tS t / 60 % 60) 2 W (by omega) (by omega) (by omega) (by simp; omega) (.inl (by omega)))
    (fun W => D (tS t % 60) 2 W (by omega) (by omega) (by omega) (by simp; omega) (.inl (by omega))) w hT
/-- What Time tells. -/
def timR (t : Int) : Value := if LT ≤ t ∧ t ≤ MT then .tuple #[.string (mkS (timL t)), .int .i64 0] else .tuple #[.string ⟨#[]⟩, .int .i64 13]
theorem time_any (t : Int) (w : World) (hT : Tab w) : Calls Tryz.prog 10 #[.int .i64 t] w fun e w' => e = .returned (timR t) ∧ Below w.heap.size w w' := by
  unfold timR
  by_cases c : LT ≤ t ∧ t ≤ MT
  · rw [if_pos c]; exact time_yes t c.1 c.2 w hT
  · rw [if_neg c]; exact time_no t (by unfold LT MT at c; omega) w
theorem tmL_bys (y m d h i s : Int) : Bys (tmL y m d h i s) :=
  (dgs_bys _ _).app ((dgs_bys _ _).app ((dgs_bys _ _).app ((dgs_bys _ _).app ((dgs_bys _ _).app ((dgs_bys _ _).app (fun x hx => by simp at hx; omega))))))
end Go.Proofs.YtajdfjpcobaioaaGreatDoor
