/- KeBegins, by what the program's functions do. -/
import Derived.Test.YtndfcecimckioaaL2
set_option linter.all false
set_option maxRecDepth 100000
namespace Go.Proofs.Ytndfcecimckioaa
open Go.RowKit Go.Shelf Go.Sort Go.Lib
theorem rd_bad (s : ByteArray) (h : rdE s ≠ 0) : rdL s = [] ∧ rdR s = ⟨#[]⟩ := by
  obtain ⟨x, hx⟩ : ∃ x, rdT s = x := ⟨_, rfl⟩
  obtain ⟨a, b, c⟩ := x
  have hc : c ≠ 0 := by unfold rdE at h; rw [hx] at h; exact h
  have h0 : rdT s = pre [] (rdG 513 s.data.toList 0) := by rw [pre_nil]; rfl
  have hx' : rdG 513 s.data.toList 0 = (a, b, c) := hx
  rw [hx, hx'] at h0
  unfold pre at h0
  rw [if_neg hc] at h0
  have e1 := congrArg Prod.fst h0
  have e2 := congrArg (fun q : List Ke × List UInt8 × Int => q.2.1) h0
  simp only at e1 e2
  unfold rdL rdR
  rw [hx]
  exact ⟨e1, by show baL b = _; rw [e2]; rfl⟩
theorem rd_good (s : ByteArray) (h : rdE s = 0) : s = baL (catL (rdL s)) ++ rdR s ∧ wfK (rdL s) ∧ tot (rdL s) ≤ 2048 ∧ (rdL s).length ≤ 513 := by
  have hx : rdG 513 s.data.toList 0 = (rdL s, (rdT s).2.1, 0) := by
    unfold rdE at h
    rw [← h]
    rfl
  obtain ⟨h1, h2, h3, h4⟩ := rdG_sound _ _ _ _ _ hx
  refine ⟨?_, h2, by omega, h4⟩
  unfold rdR
  rw [baL_app, ← h1, baL_of]
theorem rd_of (s : ByteArray) (l : List Ke) (r : ByteArray) (h : s = baL (catL l) ++ r) (hw : wfK l) (ht : tot l ≤ 2048) (hl : l.length ≤ 513) : rdE s = 0 ∧ rdR s = r ∧ rdL s = l := by
  have hx : rdT s = (l, r.data.toList, 0) := by
    unfold rdT
    rw [h, ap_list, baL_list]
    exact rdG_complete _ _ _ _ hw (by omega) hl
  unfold rdE rdR rdL
  rw [hx]
  exact ⟨rfl, baL_of r, rfl⟩
theorem rd_less (s p : ByteArray) (l : List Ke) (q : List UInt8) (hq : q ≠ []) (h : p.data.toList ++ q = catL l) (hw : wfK l) (ht : tot l ≤ 2048) (hl : l.length ≤ 513) : rdE p = 11 := by
  unfold rdE rdT
  rw [rdG_less q hq l 513 0 _ hw (by omega) hl h]
theorem wf_tot (l : List Ke) (h : wfK l) : 4 ≤ tot l := by
  cases l with
  | nil => exact absurd h id
  | cons r t => rw [tot]; omega
set_option maxHeartbeats 2000000 in
theorem KeBegins_any (CW : CWr) (CR : CRd) (s o : ByteArray) (cut : Int) (w : World) (hs : s.size ≤ 9223372036854775807) (ho : o.size ≤ 9223372036854775807) (c0 : -9223372036854775808 ≤ cut) (c1 : cut ≤ 9223372036854775807) :
    Calls Try.prog 6 #[.string s, .string o, .int .i64 cut] w fun e w' => e = .returned (.bool true) ∧ Below w.heap.size w w' := by
  have CA := awake_any CW CR
  have m1 : (s.size : Int) ≤ 9223372036854775807 := by omega
  have m2 : (o.size : Int) ≤ 9223372036854775807 := by omega
  by_cases h0 : 20000 < s.size
  · have i1 : (20000 : Int) < (s.size : Int) := by omega
    clear CW CR
    go_enter Try.func6, Try.ntmps6
    go_wp2_with (go_at_call 7; refine (CA _).mono ?_; rintro e w9 ⟨rfl, b9⟩)
    go_ret
    exact ⟨rfl, b9⟩
  have i0 : ¬ (20000 : Int) < (s.size : Int) := by omega
  by_cases h2 : 20000 < o.size
  · have i2 : (20000 : Int) < (o.size : Int) := by omega
    clear CW CR
    go_enter Try.func6, Try.ntmps6
    go_wp2_with (go_at_call 7; refine (CA _).mono ?_; rintro e w9 ⟨rfl, b9⟩)
    go_ret
    exact ⟨rfl, b9⟩
  have i2 : ¬ (20000 : Int) < (o.size : Int) := by omega
  have C1 := fun W => CR s W (by omega)
  by_cases hE : rdE s = 0
  case neg =>
    obtain ⟨e1, e2⟩ := rd_bad s hE
    rw [e1, e2] at C1
    have hE2 : (rdE s == 0) = false := by simpa using hE
    clear CW CR e1 e2 hE
    generalize rdE s = E at *
    go_enter Try.func6, Try.ntmps6
    go_wp2_with fail
    refine (C1 _).mono ?_
    rintro e w1 ⟨⟨v1, rfl, k1⟩, b1⟩
    obtain ⟨a1, c1', rfl, _⟩ := k1
    go_wp2_with fail
    refine (CA _).mono ?_
    rintro e w2 ⟨rfl, b2⟩
    have B2 := Bel.call b1 b2
    clear b1 b2
    go_wp2_with fail
    go_ret
    exact ⟨rfl, B2⟩
  · obtain ⟨g1, g2, g3, g4⟩ := rd_good s hE
    have g5 := wf_tot _ g2
    have gs : s.size = tot (rdL s) + (rdR s).size := by
      have := congrArg ByteArray.size g1
      rw [ByteArray.size_append, baL_size, catL_len] at this
      exact this
    have hgl : s.data.toList = catL (rdL s) ++ (rdR s).data.toList := by
      have h : s.data.toList = (baL (catL (rdL s)) ++ rdR s).data.toList := by rw [← g1]
      rwa [ap_list, baL_list] at h
    obtain ⟨N, hN⟩ : ∃ N, tot (rdL s) = N := ⟨_, rfl⟩
    have hx : s.extract 0 N = baL (catL (rdL s)) := by
      apply ba_ext
      rw [ext_list, baL_list, List.drop_zero, Nat.sub_zero]
      have := hgl
      rw [this, List.take_append_of_le_length (by rw [catL_len]; omega), List.take_of_length_le (by rw [catL_len]; omega)]
    obtain ⟨r1, r2, r3⟩ := rd_of (s.extract 0 N ++ o) (rdL s) o (by rw [hx]) g2 g3 g4
    have C2 := fun W => CR (s.extract 0 N ++ o) W (by rw [ByteArray.size_append, ByteArray.size_extract]; omega)
    rw [r1, r2, r3] at C2
    have C3 : ∀ k : Nat, k < N → ∀ W, Calls Try.prog 10 #[.string (s.extract 0 k)] W fun e w' => (∃ v, e = .returned (.tuple #[v, .string (rdR (s.extract 0 k)), .int .i64 11]) ∧ Kls w' v (rdL (s.extract 0 k))) ∧ Below W.heap.size W w' := fun k hk W => by
      have hp : rdE (s.extract 0 k) = 11 := by
        refine rd_less s _ (rdL s) ((catL (rdL s)).drop k) ?_ ?_ g2 g3 g4
        · intro h
          have := congrArg List.length h
          rw [List.length_drop, catL_len] at this
          simp at this
          omega
        · rw [ext_list, List.drop_zero, Nat.sub_zero]
          have := hgl
          rw [this, List.take_append_of_le_length (by rw [catL_len]; omega), List.take_append_drop]
      have := CR (s.extract 0 k) W (by rw [ByteArray.size_extract]; omega)
      rw [hp] at this
      exact this
    have CS := fun v1 v2 W (k1 : Kls W v1 (rdL s)) (k2 : Kls W v2 (rdL s)) => rSame_any (rdL s) (rdL s) v1 v2 W k1 k2 (by omega) (by omega)
    rw [kesB_self] at CS
    rw [hE] at C1
    have N1 : (4 : Int) ≤ (N : Int) := by omega
    have N2 : (N : Int) ≤ 2048 := by omega
    have N3 : (N : Int) ≤ (s.size : Int) := by omega
    have hS : (s.size : Int) - ((rdR s).size : Int) = (N : Int) := by omega
    obtain ⟨k, hkN, hK⟩ : ∃ k : Nat, k < N ∧ wrap64 ((IntKind.u64.wrap cut).tmod (N : Int)) = (k : Int) := by
      have hx : IntKind.u64.wrap cut = cut % 18446744073709551616 := by simp [IntKind.wrap, IntKind.signed, IntKind.bits]
      have a0 : (0 : Int) ≤ cut % 18446744073709551616 := by omega
      rw [hx, Int.tmod_eq_emod_of_nonneg a0]
      have a1 := Int.emod_nonneg (cut % 18446744073709551616) (show (N : Int) ≠ 0 by omega)
      have a2 := Int.emod_lt_of_pos (cut % 18446744073709551616) (show (0 : Int) < (N : Int) by omega)
      generalize cut % 18446744073709551616 % (N : Int) = y at *
      refine ⟨y.toNat, by omega, ?_⟩
      unfold wrap64
      omega
    have K0 : (0 : Int) ≤ (k : Int) := by omega
    have K1 : (k : Int) < (N : Int) := by omega
    have K2 : (k : Int) ≤ (s.size : Int) := by omega
    have C4 := C3 k hkN
    clear C3 hkN hgl
    clear CW CR g1 g2 g3 g4 g5 gs hN hx r1 r2 r3 hE
    generalize rdR s = R at *
    generalize rdL s = T at *
    go_enter Try.func6, Try.ntmps6
    go_wp2_with fail
    refine (C1 _).mono ?_
    rintro e w1 ⟨⟨v1, rfl, k1⟩, b1⟩
    clear C1
    go_wp2_with fail
    refine (C2 _).mono ?_
    rintro e w2 ⟨⟨v2, rfl, k2⟩, b2⟩
    have k1' := k1.to b2
    have B2 := Bel.call b1 b2
    clear b1 b2 C2 k1
    go_wp2_with fail
    refine (C4 _).mono ?_
    rintro e w3 ⟨⟨v3, rfl, k3⟩, b3⟩
    have k1'' := k1'.to b3
    have k2' := k2.to b3
    have B3 := Bel.call B2 b3
    clear B2 b3 C4 k1' k2 k3
    go_wp2_with fail
    refine (CS _ _ _ k1'' k2').mono ?_
    rintro e w4 ⟨rfl, b4⟩
    have B4 := Bel.call B3 b4
    clear B3 b4 CS k1'' k2'
    go_wp2_with fail
    refine (CA _).mono ?_
    rintro e w5 ⟨rfl, b5⟩
    have B5 := Bel.call B4 b5
    clear B4 b5 CA
    go_wp2_with fail
    go_ret
    exact ⟨rfl, B5⟩
end Go.Proofs.Ytndfcecimckioaa
