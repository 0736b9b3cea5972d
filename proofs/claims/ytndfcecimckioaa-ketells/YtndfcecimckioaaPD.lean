/- The program: next, the iterator's function. -/
import Derived.Test.YtndfcecimckioaaPB
import Derived.Test.YtndfcecimckioaaY8
set_option linter.all false
set_option maxRecDepth 100000
namespace Go.Proofs.Ytndfcecimckioaa
open Go.RowKit Go.Shelf Go.Sort
def zK : Ke := ⟨false, 0, ⟨#[]⟩⟩
theorem results_cell2 {P : Program} {fn : Func} {p q : Tmp} {ty : TypeId} {a : Addr} {v : Value} {w : World} (h : fn.results = #[.cell p ty, .tmp q]) (tmps : Array Value) (hp : tmps.getD p undef = .pointer (some a)) (hl : (loadVar ty a).run P w = .ok v w) :
    (results fn tmps).run P w = .ok (.tuple #[v, tmps.getD q undef]) w := by
  have hp' : tmps[p]?.getD undef = .pointer (some a) := by simpa using hp
  simp only [results, h]
  simp [Sem.run_bind, hp', asAddr, hl]
theorem ld3 {W : World} {b : Nat} {v0 v1 v2 : Value} (c0 : W.cell? ⟨b, 0, none⟩ = some v0) (c1 : W.cell? ⟨b, 1, none⟩ = some v1) (c2 : W.cell? ⟨b, 2, none⟩ = some v2) :
    (loadVar 47 ⟨b, 0, none⟩).run Try.prog W = .ok (.agg #[v0, v1, v2]) W := by
  simp [loadVar, go_sem, c0, c1, c2]
set_option maxHeartbeats 2000000 in
theorem next_core (s R : ByteArray) (q : Nat) (K N : Int) (r : Ke) (E : Int) (hq : q ≤ s.size) (hq2 : q ≤ 2048) (hs : s.size ≤ 281474976710656) (hR : R = s.extract q s.size) (w : World)
    (h0 : R.size < 4 → E = 11 ∧ r = zK)
    (hK : 4 ≤ R.size → bt R 0 * 256 + bt R 1 = K ∧ bt R 2 * 256 + bt R 3 = N)
    (h1 : 4 ≤ R.size → 1024 < N ∨ 2048 < q + 4 + N → E = 12 ∧ r = zK)
    (h2 : 4 ≤ R.size → ¬ (1024 < N ∨ 2048 < q + 4 + N) → K % 32768 = 0 ∧ (K < 32768 ∨ 0 < N) → E = 10 ∧ r = zK)
    (h3 : 4 ≤ R.size → ¬ (1024 < N ∨ 2048 < q + 4 + N) → ¬ (K % 32768 = 0 ∧ (K < 32768 ∨ 0 < N)) → (R.size : Int) < 4 + N → E = 11 ∧ r = zK)
    (h4 : 4 ≤ R.size → ¬ (1024 < N ∨ 2048 < q + 4 + N) → ¬ (K % 32768 = 0 ∧ (K < 32768 ∨ 0 < N)) → ¬ (R.size : Int) < 4 + N → E = 0 ∧ r = ⟨decide (32768 ≤ K), K % 32768, R.extract 4 (4 + N.toNat)⟩) :
    Calls Try.prog 34 #[.string s, .int .i64 (q : Int)] w fun e w' => e = .returned (.tuple #[keV r, .int .i64 E]) ∧ Below w.heap.size w w' := by
  have q0 : (0 : Int) ≤ (q : Int) := by omega
  have q1 : (q : Int) ≤ (s.size : Int) := by omega
  have q2 : (q : Int) ≤ 2048 := by omega
  have s1 : (s.size : Int) ≤ 281474976710656 := by omega
  have Rz : R.size = s.size - q := by rw [hR, ByteArray.size_extract]; omega
  have r1 : (R.size : Int) ≤ 281474976710656 := by omega
  have HRe : Hid (s.extract q s.size = R) := hR.symm
  have hSl : ∀ W : World, (Instr.slice 9 (.string s) (some (.int .i64 (q : Int))) none none).run Try.prog W = .ok (.string R) W := by
    intro W
    rw [hR]
    simp [go_sem]
    omega
  clear hR
  unfold keV
  by_cases g0 : R.size < 4
  · obtain ⟨rfl, rfl⟩ := h0 g0
    have i0 : (R.size : Int) < 4 := by omega
    clear h0 hK h1 h2 h3 h4
    unfold zK
    go_enter Try.func34, Try.ntmps34
    go_wp2_with fail
    refine bodyPost_ret (v := .tuple #[.agg #[.bool false, .int .i64 0, .string ⟨#[]⟩], .int .i64 11]) (by simp [results, Try.results34, go_sem]) rfl ⟨rfl, by go_grown⟩
  have g0' : 4 ≤ R.size := by omega
  obtain ⟨hK, hN⟩ := hK g0'
  have C1 := fun W => number_any R (by omega) W
  have z2 : (R.extract 2 R.size).size = R.size - 2 := by rw [ByteArray.size_extract]; omega
  have C2 := fun W => number_any (R.extract 2 R.size) (by omega) W
  rw [bt_ext R 2 R.size 0 (by omega) (Nat.le_refl _), bt_ext R 2 R.size 1 (by omega) (Nat.le_refl _), hN] at C2
  rw [hK] at C1
  have k0 : 0 ≤ K ∧ K < 65536 := by have := bt_bd R 0; have := bt_bd R 1; omega
  have n0 : 0 ≤ N ∧ N < 65536 := by have := bt_bd R 2; have := bt_bd R 3; omega
  obtain ⟨k0, k1⟩ := k0
  obtain ⟨n0, n1⟩ := n0
  have i0 : ¬ (R.size : Int) < 4 := by omega
  have hSl2 : ∀ W : World, (Instr.slice 9 (.string R) (some (.int .i64 2)) none none).run Try.prog W = .ok (.string (R.extract 2 R.size)) W := by
    intro W
    simp [go_sem]
    omega
  have H1 := h1 g0'
  have H2 := h2 g0'
  have H3 := h3 g0'
  have H4 := h4 g0'
  have HD : Hid (R.extract 2 R.size = R.extract 2 R.size) := rfl
  generalize R.extract 2 R.size = D at *
  clear h0 h1 h2 h3 h4 hK hN g0 g0' z2 HD Rz
  have A0 := Arr.new w #[Value.bool false, .int .i64 0, .string ⟨#[]⟩] 47 _ rfl _ 3 (keC_at zK)
  have B0 := Bel.al (Below.refl w.heap.size w) (.cells #[.bool false, .int .i64 0, .string ⟨#[]⟩] 47)
  go_enter Try.func34, Try.ntmps34
  go_wp2_with fail
  refine wp_region_quiet_below (by kernel_rfl) (by kernel_rfl) ?_
  repeat (go_big_quiet_step (first | (go_at_call 30; first | with_reducible exact Calls.regrown_of (C1 _) | with_reducible exact Calls.regrown_of (C2 _))))
  refine wpQuiet_nil ?_
  intro w3 hw'
  obtain ⟨⟨dq, osq⟩, hw''⟩ := hw'
  have hb := below_of hw''
  clear hw'' C1 C2
  have A1 := Arr.to' (n := 2) A0 hb
  have B1 := Bel.call B0 hb
  have hlt := Nat.lt_of_lt_of_le (Arr.lt (n := 2) A0) hb.size
  have A2 := Arr.al' (n := 2) A1 (.cells #[.bool (decide (32768 ≤ K)), .int .i64 (K % 32768), .string ⟨#[]⟩] 47)
  have D2 := Arr.new w3 #[Value.bool (decide (32768 ≤ K)), .int .i64 (K % 32768), .string ⟨#[]⟩] 47 _ rfl _ 3 (keC_at ⟨decide (32768 ≤ K), K % 32768, ⟨#[]⟩⟩)
  have B2 := Bel.al B1 (.cells #[.bool (decide (32768 ≤ K)), .int .i64 (K % 32768), .string ⟨#[]⟩] 47)
  clear hb A0 B0 A1 B1 hSl hSl2
  go_upto_region 6 with (fail)
  generalize w3.alloc (.cells #[.bool (decide (32768 ≤ K)), .int .i64 (K % 32768), .string ⟨#[]⟩] 47) = W at *
  have c0 := A2.cv 0 (by omega) (.bool false) rfl
  have c1 := A2.cv 1 (by omega) (.int .i64 0) rfl
  have c2 := A2.cv 2 (by omega) (.string ⟨#[]⟩) rfl
  have z0 := A2.z 0 (by omega)
  have z1 := A2.z 1 (by omega)
  have z2 := A2.z 2 (by omega)
  have d0 := D2.cv 0 (by omega) (.bool (decide (32768 ≤ K))) rfl
  have d1 := D2.cv 1 (by omega) (.int .i64 (K % 32768)) rfl
  have d2 := D2.cv 2 (by omega) (.string ⟨#[]⟩) rfl
  have y2 := D2.z 2 (by omega)
  clear D2
  have HWb : Hid (w.heap.size = w.heap.size) := rfl
  generalize w3.heap.size = b1 at *
  obtain ⟨b0, hb0⟩ : ∃ b, w.heap.size = b := ⟨_, rfl⟩
  have HB0 : Hid (w.heap.size = b0) := hb0
  rw [hb0] at c0 c1 c2 z0 z1 z2 hlt A2
  have HA2 : Hid (Arr W b0 3 _) := A2
  clear A2
  clear HWb
  have ne : b0 ≠ b1 := by omega
  have ne' : b1 ≠ b0 := by omega
  simp only [hb0]
  clear hb0
  have hcb : decide (32768 ≤ K) = false ∨ decide (32768 ≤ K) = true := by cases decide (32768 ≤ K) <;> simp
  have G0 : ∀ (W : World), Below w.heap.size w W → ∀ (v0 v1 v2 : Value), Below w.heap.size w (((W.setCell ⟨b0, 0, none⟩ v0).setCell ⟨b0, 1, none⟩ v1).setCell ⟨b0, 2, none⟩ v2) := fun W B2 v0 v1 v2 =>
    ((B2.setCell (p := ⟨b0, 0, none⟩) (by show _ ≤ b0; have := HB0.out; omega) v0).setCell (p := ⟨b0, 1, none⟩) (by show _ ≤ b0; have := HB0.out; omega) v1).setCell (p := ⟨b0, 2, none⟩) (by show _ ≤ b0; have := HB0.out; omega) v2
  have GB := G0 W B2
  have GH : Hid (∀ (v0 v1 v2 : Value), Below w.heap.size w (((W.setCell ⟨b0, 0, none⟩ v0).setCell ⟨b0, 1, none⟩ v1).setCell ⟨b0, 2, none⟩ v2)) := GB
  have GH2 : Hid (∀ (u v0 v1 v2 : Value), Below w.heap.size w ((((W.setCell ⟨b1, 2, none⟩ u).setCell ⟨b0, 0, none⟩ v0).setCell ⟨b0, 1, none⟩ v1).setCell ⟨b0, 2, none⟩ v2)) := fun u => G0 _ (B2.setCell (p := ⟨b1, 2, none⟩) (by show _ ≤ b1; have := HB0.out; omega) u)
  have LD : Hid (∀ (v0 v1 v2 : Value), (loadVar 47 ⟨b0, 0, none⟩).run Try.prog (((W.setCell ⟨b0, 0, none⟩ v0).setCell ⟨b0, 1, none⟩ v1).setCell ⟨b0, 2, none⟩ v2) = .ok (.agg #[v0, v1, v2]) (((W.setCell ⟨b0, 0, none⟩ v0).setCell ⟨b0, 1, none⟩ v1).setCell ⟨b0, 2, none⟩ v2)) := by
    intro v0 v1 v2
    have A3 := ((HA2.out.set 0 (by omega) v0).set 1 (by omega) v1).set 2 (by omega) v2
    exact ld3 (A3.cv 0 (by omega) v0 rfl) (A3.cv 1 (by omega) v1 rfl) (A3.cv 2 (by omega) v2 rfl)
  have LD2 : Hid (∀ (u v0 v1 v2 : Value), (loadVar 47 ⟨b0, 0, none⟩).run Try.prog ((((W.setCell ⟨b1, 2, none⟩ u).setCell ⟨b0, 0, none⟩ v0).setCell ⟨b0, 1, none⟩ v1).setCell ⟨b0, 2, none⟩ v2) = .ok (.agg #[v0, v1, v2]) ((((W.setCell ⟨b1, 2, none⟩ u).setCell ⟨b0, 0, none⟩ v0).setCell ⟨b0, 1, none⟩ v1).setCell ⟨b0, 2, none⟩ v2)) := by
    intro u v0 v1 v2
    have A3 := (((HA2.out.other (k := 2) ne' u).set 0 (by omega) v0).set 1 (by omega) v1).set 2 (by omega) v2
    exact ld3 (A3.cv 0 (by omega) v0 rfl) (A3.cv 1 (by omega) v1 rfl) (A3.cv 2 (by omega) v2 rfl)
  clear GB B2 G0
  by_cases e1 : 1024 < N
  · obtain ⟨rfl, rfl⟩ := H1 (.inl e1)
    clear H1 H2 H3 H4
    go_wp2_with fail
    exact bodyPost_ret (results_cell2 rfl _ rfl (LD.out _ _ _)) rfl ⟨rfl, GH.out _ _ _⟩
  by_cases e2 : 2048 < (q : Int) + 4 + N
  · obtain ⟨rfl, rfl⟩ := H1 (.inr e2)
    clear H1 H2 H3 H4
    go_wp2_with fail
    exact bodyPost_ret (results_cell2 rfl _ rfl (LD.out _ _ _)) rfl ⟨rfl, GH.out _ _ _⟩
  have hE : ¬ (1024 < N ∨ 2048 < (q : Int) + 4 + N) := by omega
  have H2' := H2 hE
  have H3' := H3 hE
  have H4' := H4 hE
  have L1 : decide (K < 32768) = !decide (32768 ≤ K) := by
    by_cases h : 32768 ≤ K
    · rw [decide_eq_true h, decide_eq_false (by omega)]; rfl
    · rw [decide_eq_false h, decide_eq_true (by omega)]; rfl
  have N1 : ¬ (K < 32768) ↔ decide (32768 ≤ K) = true := by simp
  have N2 : K < 32768 ↔ decide (32768 ≤ K) = false := by simp
  have HF : Hid (4 + N ≤ (R.size : Int) → ∀ W : World, (Instr.slice 9 (.string R) (some (.int .i64 4)) (some (.int .i64 (4 + N))) none).run Try.prog W = .ok (.string (R.extract 4 (4 + N.toNat))) W) := by
    show _ → _
    intro h W
    have e : (4 + N).toNat = 4 + N.toNat := by omega
    simp [go_sem, e]
    rw [if_pos ⟨by omega, h⟩, if_pos (by omega)]
  have m1 : N ≤ 1024 := by omega
  clear H1 H2 H3 H4 L1 hE
  generalize decide (32768 ≤ K) = cb at *
  generalize K % 32768 = kk at *
  have good : 4 + N ≤ (R.size : Int) → ¬ (kk = 0 ∧ (K < 32768 ∨ 0 < N)) → Hid (E = 0 ∧ r = ⟨cb, kk, R.extract 4 (4 + N.toNat)⟩) := fun a b => H4' b a
  clear H4'
  by_cases e3 : kk = 0
  · subst e3
    cases cb
    case false =>
      obtain ⟨rfl, rfl⟩ := H2' ⟨rfl, .inl (N2.2 rfl)⟩
      clear H2' H3' HF good N1 N2
      go_wp2_with fail
      exact bodyPost_ret (results_cell2 rfl _ rfl (LD.out _ _ _)) rfl ⟨rfl, GH.out _ _ _⟩
    case true =>
      have nk := N1.2 rfl
      by_cases e4 : 0 < N
      · obtain ⟨rfl, rfl⟩ := H2' ⟨rfl, .inr e4⟩
        clear H2' H3' HF good N1 N2
        go_wp2_with fail
        exact bodyPost_ret (results_cell2 rfl _ rfl (LD.out _ _ _)) rfl ⟨rfl, GH.out _ _ _⟩
      · have nn : ¬ ((0 : Int) = 0 ∧ (K < 32768 ∨ 0 < N)) := by omega
        have eN : N = 0 := by omega
        by_cases e5 : (R.size : Int) < 4 + N
        · omega
        · obtain ⟨rfl, rfl⟩ := (good (by omega) nn).out
          have SL := HF.out (by omega)
          obtain ⟨T, hT⟩ : ∃ T, R.extract 4 (4 + N.toNat) = T := ⟨_, rfl⟩
          rw [hT] at SL
          have HTT : Hid (R.extract 4 (4 + N.toNat) = T) := hT
          clear hT
          clear H2' H3' HF good N1 N2 nk nn eN
          go_wp2_with fail
          exact bodyPost_ret (results_cell2 rfl _ rfl (LD2.out _ _ _ _)) rfl ⟨by rw [HTT.out]; rfl, GH2.out _ _ _ _⟩
  · have nn : ¬ (kk = 0 ∧ (K < 32768 ∨ 0 < N)) := fun h => e3 h.1
    by_cases e5 : (R.size : Int) < 4 + N
    · obtain ⟨rfl, rfl⟩ := H3' nn e5
      clear H2' H3' HF good N1 N2 nn
      go_wp2_with fail
      exact bodyPost_ret (results_cell2 rfl _ rfl (LD.out _ _ _)) rfl ⟨rfl, GH.out _ _ _⟩
    · obtain ⟨rfl, rfl⟩ := (good (by omega) nn).out
      have SL := HF.out (by omega)
      obtain ⟨T, hT⟩ : ∃ T, R.extract 4 (4 + N.toNat) = T := ⟨_, rfl⟩
      rw [hT] at SL
      have HTT : Hid (R.extract 4 (4 + N.toNat) = T) := hT
      clear hT
      clear H2' H3' HF good N1 N2 nn
      go_wp2_with fail
      exact bodyPost_ret (results_cell2 rfl _ rfl (LD2.out _ _ _ _)) rfl ⟨by rw [HTT.out]; rfl, GH2.out _ _ _ _⟩
end Go.Proofs.Ytndfcecimckioaa
