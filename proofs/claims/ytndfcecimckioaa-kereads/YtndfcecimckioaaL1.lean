/- The laws' own words: awake; KeReads, by what the program's functions do. -/
import Derived.Test.YtndfcecimckioaaK6
set_option linter.all false
set_option maxRecDepth 100000
namespace Go.Proofs.Ytndfcecimckioaa
open Go.RowKit Go.Shelf Go.Sort Go.Lib
def CWr : Prop := ∀ (l : List Ke) (v : Value) (w : World), Kls w v l → l.length ≤ 100000 → (∀ r ∈ l, r.s.size ≤ 9223372036854775807) →
  Calls Try.prog 8 #[v] w fun e w' => e = .returned (.tuple #[.string (wrS l), .int .i64 (wrR l)]) ∧ Below w.heap.size w w'
def CRd : Prop := ∀ (s : ByteArray) (w : World), s.size ≤ 281474976710656 →
  Calls Try.prog 10 #[.string s] w fun e w' => (∃ v, e = .returned (.tuple #[v, .string (rdR s), .int .i64 (rdE s)]) ∧ Kls w' v (rdL s)) ∧ Below w.heap.size w w'
def CPr : Prop := ∀ (l : List Int) (v : Value) (w : World), Nls w v l → l.length ≤ 100000 →
  Calls Try.prog 13 #[v] w fun e w' => e = .returned (.tuple #[.string (prS l), .int .i64 (prE l)]) ∧ Below w.heap.size w w'
def CTp : Prop := ∀ (s : ByteArray) (w : World), s.size ≤ 1000000 →
  Calls Try.prog 15 #[.string s] w fun e w' => (∃ v, e = .returned (.tuple #[v, .int .i64 (tpE s.size)]) ∧ Nls w' v (tpR s)) ∧ Below w.heap.size w w'
def CFd : Prop := ∀ (l : List Ke) (kd : Int) (v : Value) (w : World), Kls w v l → l.length ≤ 100000 →
  Calls Try.prog 18 #[v, .int .i64 kd] w fun e w' => (∃ v', e = .returned v' ∧ Kls w' v' (fdL l kd)) ∧ Below w.heap.size w w'
def CUn : Prop := ∀ (l : List Ke) (v : Value) (w : World), Kls w v l → l.length ≤ 100000 →
  Calls Try.prog 20 #[v] w fun e w' => e = .returned (.int .i64 (unI l 0)) ∧ Below w.heap.size w w'
def nxK : List Ke := [⟨true, 1, ⟨#[0, 0]⟩⟩]
theorem aw_1 : wrR nxK = 0 := by decide
theorem aw_2 : wrS nxK = ⟨#[128, 1, 0, 2, 0, 0]⟩ := by
  unfold wrS
  rw [if_pos aw_1]
  rfl
theorem aw_3 : rdT ⟨#[128, 0, 0, 0, 120]⟩ = ([⟨true, 0, baL []⟩], [120], 0) := by kernel_rfl
theorem aw_4 : rdT ⟨#[0, 0, 0, 0]⟩ = ([], [], 10) := by kernel_rfl
theorem kls_new (w : World) (r : Ke) : Kls (w.alloc (.cells #[.bool r.c, .int .i64 r.k, .string r.s] 47)) (.slice (some ⟨w.heap.size, 0, none⟩) 1 1) [r] := by
  refine ⟨_, 1, rfl, fun i x hx => ⟨w.heap.size, 0, rfl, by simp, ?_⟩⟩
  cases i with
  | succ i => cases hx
  | zero =>
    have hx' : r = x := by simpa using hx
    subst hx'
    have A := Arr.new w #[Value.bool r.c, .int .i64 r.k, .string r.s] 47 _ rfl _ 3 (keC_at r)
    exact ⟨A.cv 0 (by omega) _ rfl, A.cv 1 (by omega) _ rfl, A.cv 2 (by omega) _ rfl⟩
set_option maxHeartbeats 1000000 in
theorem awake_any (CW : CWr) (CR : CRd) (w : World) : Calls Try.prog 7 #[] w fun e w' => e = .returned (.bool true) ∧ Below w.heap.size w w' := by
  have C1 := CW nxK _ _ (kls_new w ⟨true, 1, ⟨#[0, 0]⟩⟩) (by decide) (by intro r hr; rw [List.mem_singleton.1 hr]; decide)
  rw [aw_1, aw_2] at C1
  have C2 := fun W => CR ⟨#[128, 0, 0, 0, 120]⟩ W (by decide)
  have e2 : rdE ⟨#[128, 0, 0, 0, 120]⟩ = 0 := by unfold rdE; rw [aw_3]
  have r2 : rdR ⟨#[128, 0, 0, 0, 120]⟩ = ⟨#[120]⟩ := by unfold rdR; rw [aw_3]; rfl
  have l2 : rdL ⟨#[128, 0, 0, 0, 120]⟩ = [⟨true, 0, baL []⟩] := by unfold rdL; rw [aw_3]
  rw [e2, r2, l2] at C2
  have C3 := fun W => CR ⟨#[0, 0, 0, 0]⟩ W (by decide)
  have e3 : rdE ⟨#[0, 0, 0, 0]⟩ = 10 := by unfold rdE; rw [aw_4]
  have r3 : rdR ⟨#[0, 0, 0, 0]⟩ = ⟨#[]⟩ := by unfold rdR; rw [aw_4]; rfl
  rw [e3, r3] at C3
  clear CW CR e2 r2 l2 e3 r3
  go_enter Try.func7, Try.ntmps7
  go_wp2_with fail
  refine C1.mono ?_
  rintro e w1 ⟨rfl, b1⟩
  clear C1
  have B1 := Bel.call (Bel.al (Below.refl w.heap.size w) (.cells #[.bool true, .int .i64 1, .string ⟨#[0, 0]⟩] 47)) b1
  clear b1
  go_wp2_with fail
  refine (C2 _).mono ?_
  rintro e w2 ⟨⟨v2, rfl, k2⟩, b2⟩
  obtain ⟨a2, c2, rfl, _⟩ := k2
  have B2 := Bel.call B1 b2
  clear b2 B1 C2
  go_wp2_with fail
  refine (C3 _).mono ?_
  rintro e w3 ⟨⟨v3, rfl, k3⟩, b3⟩
  have B3 := Bel.call B2 b3
  clear b3 B2 C3 k3
  go_wp2_with fail
  go_ret
  exact ⟨rfl, B3⟩
set_option maxHeartbeats 2000000 in
theorem KeReads_any (CW : CWr) (CR : CRd) (l : List Ke) (s : ByteArray) (v : Value) (w : World) (H : Kls w v l) (h9 : l.length ≤ 9223372036854775807) (hs : s.size ≤ 9223372036854775807) (hr : ∀ r ∈ l, r.s.size ≤ 9223372036854775807) :
    Calls Try.prog 3 #[v, .string s] w fun e w' => e = .returned (.bool true) ∧ Below w.heap.size w w' := by
  have CA := awake_any CW CR
  by_cases h1 : 2000 < l.length
  · obtain ⟨a, c, rfl, _⟩ := H
    have i1 : (2000 : Int) < (l.length : Int) := by omega
    have i2 : (l.length : Int) ≤ 9223372036854775807 := by omega
    clear CW CR hr
    go_enter Try.func3, Try.ntmps3
    go_wp2_with (go_at_call 7; refine (CA _).mono ?_; rintro e w9 ⟨rfl, b9⟩)
    go_ret
    exact ⟨rfl, b9⟩
  by_cases h2 : 20000 < s.size
  · obtain ⟨a, c, rfl, _⟩ := H
    have i1 : ¬ (2000 : Int) < (l.length : Int) := by omega
    have i2 : (20000 : Int) < (s.size : Int) := by omega
    have i3 : (s.size : Int) ≤ 9223372036854775807 := by omega
    clear CW CR hr
    go_enter Try.func3, Try.ntmps3
    go_wp2_with (go_at_call 7; refine (CA _).mono ?_; rintro e w9 ⟨rfl, b9⟩)
    go_ret
    exact ⟨rfl, b9⟩
  have i1 : ¬ (2000 : Int) < (l.length : Int) := by omega
  have i2 : ¬ (20000 : Int) < (s.size : Int) := by omega
  have i3 : (s.size : Int) ≤ 20000 := by omega
  have i4 : (l.length : Int) ≤ 2000 := by omega
  have C1 := fun W (h : Kls W v l) => CW l v W h (by omega) hr
  have C2 := fun W (h : Kls W v l) => rWrite_any l v W h h9 hr
  have C3 := fun W => CR s W (by omega)
  have C4 := fun W => rRead_any s (by omega) W
  have HL : (rdL s).length ≤ 9223372036854775807 := by
    obtain ⟨x, hx⟩ : ∃ x, rdT s = x := ⟨_, rfl⟩
    obtain ⟨a, b, c⟩ := x
    unfold rdL
    rw [hx]
    show a.length ≤ _
    by_cases hc : c = 0
    · subst hc
      have := (rdG_sound 513 s.data.toList 0 a b hx).2.2.2
      omega
    · have h0 : rdT s = pre [] (rdG 513 s.data.toList 0) := by rw [pre_nil]; rfl
      have hx' : rdG 513 s.data.toList 0 = (a, b, c) := hx
      rw [hx, hx'] at h0
      unfold pre at h0
      rw [if_neg hc] at h0
      have := congrArg Prod.fst h0
      simp only at this
      rw [this]
      decide
  have CS := fun v1 v2 W (k1 : Kls W v1 (rdL s)) (k2 : Kls W v2 (rdL s)) => rSame_any (rdL s) (rdL s) v1 v2 W k1 k2 HL HL
  rw [kesB_self] at CS
  clear CW CR hr h1 h2 h9 hs HL
  have hv : ∃ a c, v = .slice a l.length c := by obtain ⟨a, c, e, _⟩ := H; exact ⟨a, c, e⟩
  obtain ⟨a, c, rfl⟩ := hv
  have HN : Hid (l.length = l.length) := rfl
  generalize wrS l = S at *
  generalize wrR l = E at *
  generalize rdR s = R at *
  generalize rdE s = F at *
  generalize rdL s = T at *
  go_enter Try.func3, Try.ntmps3
  go_wp2_with fail
  refine (C1 _ H).mono ?_
  rintro e w1 ⟨rfl, b1⟩
  have H1 := H.to b1
  clear H C1
  go_wp2_with fail
  refine (C2 _ H1).mono ?_
  rintro e w2 ⟨rfl, b2⟩
  have B2 := Bel.call b1 b2
  clear H1 C2 b1 b2
  go_wp2_with fail
  refine (C3 _).mono ?_
  rintro e w3 ⟨⟨v3, rfl, k3⟩, b3⟩
  have B3 := Bel.call B2 b3
  clear B2 b3 C3
  go_wp2_with fail
  refine (C4 _).mono ?_
  rintro e w4 ⟨⟨v4, rfl, k4⟩, b4⟩
  have k3' := k3.to b4
  have B4 := Bel.call B3 b4
  clear B3 b4 C4 k3
  have C5 := CS _ _ _ k3' k4
  clear CS k3' k4
  go_wp2_with fail
  refine C5.mono ?_
  rintro e w5 ⟨rfl, b5⟩
  have B5 := Bel.call B4 b5
  clear B4 b5 C5
  go_wp2_with fail
  refine (CA _).mono ?_
  rintro e w6 ⟨rfl, b6⟩
  have B6 := Bel.call B5 b6
  clear B5 b6 CA
  go_wp2_with fail
  go_ret
  exact ⟨rfl, B6⟩
end Go.Proofs.Ytndfcecimckioaa
