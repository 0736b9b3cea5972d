/- The laws' own helpers: short; awake tells true. -/
import Derived.Test.YtogkijjmimaccaaJ25
import Derived.Test.YtogkijjmimaccaaJ26
set_option linter.all false
set_option maxRecDepth 100000
namespace Go.Proofs.Ytogkijjmimaccaa
open Go.RowKit Go.Sort Lin
/-- Are texts short, and not many? -/
def lnB (n : Nat) : Bool := decide (n ≤ 12) || (decide (120 < n) && decide (n < 200))
def shB (l : List ByteArray) : Bool := (l.all fun s => decide (s.size ≤ 600)) && lnB l.length
theorem shB_1 {l : List ByteArray} (h : shB l = true) : l.length ≤ 200 ∧ ∀ s ∈ l, s.size ≤ 600 := by
  unfold shB lnB at h
  simp only [Bool.and_eq_true, Bool.or_eq_true, decide_eq_true_eq, List.all_eq_true] at h
  exact ⟨by omega, h.1⟩
set_option maxHeartbeats 2000000 in
theorem short_core (l : List ByteArray) (a0 : Option Addr) (n cap : Nat) (hl : l.length = n) (hn : n ≤ maxLen) (r : Bool) (hr : r = shB l) (hg : ∀ s ∈ l, s.size ≤ maxLen) (w : World) (hc : ∀ (i : Nat) (s : ByteArray), l[i]? = some s → ∃ a, a0 = some a ∧ w.cell? (a.add i) = some (.string s)) :
    Calls Try.prog 8 #[.slice a0 n cap] w fun e w' => e = .returned (.bool r) ∧ w' = w := by
  unfold maxLen at hn
  have HL : Hid (l.length = n) := hl
  have n0 : (0 : Int) ≤ (n : Int) := by omega
  have n1 : (n : Int) ≤ 9223372036854775807 := by omega
  clear hl
  go_enter Try.func8, Try.ntmps8
  go_wp2_with fail
  go_loopw [7] (fun i wr => ∃ k : Nat, k ≤ n ∧ i = .int .i64 k ∧ wr = w ∧ ∀ s ∈ l.take k, s.size ≤ 600) (fun i _ => n - (intOf i).toNat)
  case atStart => exact ⟨0, by omega, rfl, rfl, fun s hs => by rw [List.take_zero] at hs; cases hs⟩
  case round =>
    obtain ⟨k, hk, rfl, rfl, hs⟩ := hrel
    have k0 : (0 : Int) ≤ (k : Int) := by omega
    by_cases hlt : k < n
    · have k1 : (k : Int) < (n : Int) := by omega
      obtain ⟨s, hsk⟩ : ∃ s, l[k]? = some s := ⟨_, List.getElem?_eq_getElem (by rw [HL.out]; exact hlt)⟩
      obtain ⟨a, rfl, cc⟩ := hc k s hsk
      have m := hg s (List.mem_of_getElem? hsk)
      unfold maxLen at m
      by_cases h5 : s.size ≤ 600
      · have s5 : ¬ (600 : Int) < (s.size : Int) := by omega
        have HS : Hid (∀ t ∈ l.take (k + 1), t.size ≤ 600) := fun t ht => by
          rw [take_snoc hsk] at ht
          rcases List.mem_append.1 ht with h1 | h1
          · exact hs t h1
          · rw [List.mem_singleton.1 h1]; exact h5
        clear hs hg hr h5 hsk hc
        go_wp2_with fail
        exact ⟨⟨k + 1, by omega, by go_num, trivial, HS.out⟩, by simp [intOf]; omega⟩
      · have s5 : (600 : Int) < (s.size : Int) := by omega
        have e : shB l = false := by
          have : (l.all fun s => decide (s.size ≤ 600)) = false := by
            rw [List.all_eq_false]
            exact ⟨s, List.mem_of_getElem? hsk, by simpa using h5⟩
          unfold shB
          rw [this]
          rfl
        rw [e] at hr
        subst hr
        clear hs hg h5 hsk hc e
        go_wp2_with fail
        go_ret
        exact ⟨rfl, rfl⟩
    · have k1 : ¬ (k : Int) < (n : Int) := by omega
      have e : shB l = lnB n := by
        have : (l.all fun s => decide (s.size ≤ 600)) = true := by
          rw [List.all_eq_true]
          intro s hs'
          rw [List.take_of_length_le (by rw [HL.out]; omega)] at hs
          simpa using hs s hs'
        unfold shB
        rw [this, HL.out]
        rfl
      rw [e] at hr
      unfold lnB at hr
      clear hs hg e hc
      by_cases q1 : n ≤ 12
      · have i1 : (n : Int) ≤ 12 := by omega
        have er : r = true := by rw [hr]; simp [q1]
        subst er
        clear hr
        go_wp2_with fail
        go_ret
        exact ⟨rfl, rfl⟩
      · have i1 : ¬ (n : Int) ≤ 12 := by omega
        by_cases q2 : 120 < n
        · have i2 : (120 : Int) < (n : Int) := by omega
          by_cases q3 : n < 200
          · have i3 : (n : Int) < 200 := by omega
            have er : r = true := by rw [hr]; simp [q2, q3]
            subst er
            clear hr
            go_wp2_with fail
            go_ret
            exact ⟨rfl, rfl⟩
          · have i3 : ¬ (n : Int) < 200 := by omega
            have er : r = false := by rw [hr]; simp; omega
            subst er
            clear hr
            go_wp2_with fail
            go_ret
            exact ⟨rfl, rfl⟩
        · have i2 : ¬ (120 : Int) < (n : Int) := by omega
          have er : r = false := by rw [hr]; simp; omega
          subst er
          clear hr
          go_wp2_with fail
          go_ret
          exact ⟨rfl, rfl⟩
theorem short_any (l : List ByteArray) (v : Value) (hn : l.length ≤ maxLen) (hg : ∀ s ∈ l, s.size ≤ maxLen) (w : World) (hv : Txs w v l) :
    Calls Try.prog 8 #[v] w fun e w' => e = .returned (.bool (shB l)) ∧ w' = w := by
  rcases hv with ⟨rfl, h2⟩ | ⟨a, cap, rfl, _, hc⟩
  · exact short_core l none 0 0 (by rw [h2]; rfl) (by omega) _ rfl hg w (fun i s hi => by rw [h2] at hi; cases hi)
  · exact short_core l (some a) _ cap rfl hn _ rfl hg w (fun i s hi => ⟨a, rfl, hc i s hi⟩)
set_option maxHeartbeats 1000000 in
theorem awake_core (S : ByteArray) (w : World) (hS : S = ⟨#[133, 99, 45, 7, 198, 232, 243, 127, 149, 10, 205, 50, 10, 46, 204, 147, 64, 192, 43, 150, 144, 196, 220, 4, 218, 239, 127, 106, 254, 92]⟩)
    (C16 : ∀ W, Txs W (.slice (some ⟨w.heap.size, 0, none⟩) 1 1) [⟨#[16, 17, 18, 19, 20, 21, 22, 23, 24, 25, 26, 27, 28, 29, 30, 31, 32, 33, 34, 35, 36, 37, 38, 39]⟩] → Calls Try.prog 16 #[.string ⟨#[255, 254, 253, 252, 251, 250, 249, 248, 247, 246, 245, 244, 243, 242, 241, 240, 240, 241, 242, 243, 244, 245, 246, 247, 248, 249, 250, 251, 252, 253, 254, 255]⟩, .slice (some ⟨w.heap.size, 0, none⟩) 1 1, .string ⟨#[17, 34, 51, 68, 85, 102, 119, 136, 153, 170, 187, 204, 221, 238]⟩] W fun e w' => e = .returned (.tuple #[.string S, .int .i64 0]) ∧ Below W.heap.size W w') :
    Calls Try.prog 9 #[] w fun e w' => e = .returned (.bool true) ∧ Below w.heap.size w w' := by
  have B0 : Below w.heap.size w (w.alloc (.cells #[.string ⟨#[16, 17, 18, 19, 20, 21, 22, 23, 24, 25, 26, 27, 28, 29, 30, 31, 32, 33, 34, 35, 36, 37, 38, 39]⟩] 9)) := Bel.al (Below.refl _ w) _
  have X0 : Txs (w.alloc (.cells #[.string ⟨#[16, 17, 18, 19, 20, 21, 22, 23, 24, 25, 26, 27, 28, 29, 30, 31, 32, 33, 34, 35, 36, 37, 38, 39]⟩] 9)) (.slice (some ⟨w.heap.size, 0, none⟩) 1 1) [⟨#[16, 17, 18, 19, 20, 21, 22, 23, 24, 25, 26, 27, 28, 29, 30, 31, 32, 33, 34, 35, 36, 37, 38, 39]⟩] := by
    refine .inr ⟨⟨w.heap.size, 0, none⟩, 1, rfl, Nat.le_refl _, fun i s hi => ?_⟩
    match i, hi with
    | 0, hi =>
      cases hi
      rw [Addr.add_mid, Nat.zero_add]
      exact (World.cell?_alloc_at (w := w) _ 9 _ 0 rfl).trans rfl
  have D := C16 _ X0
  clear C16 X0
  go_enter Try.func9, Try.ntmps9
  go_wp2_with fail
  refine D.mono ?_
  rintro e w1 ⟨rfl, B1⟩
  replace B1 := Bel.call B0 B1
  clear D B0
  subst hS
  go_wp2_with fail
  go_ret
  exact ⟨rfl, B1⟩
theorem ex_h1 : hf1 exK = xaK := by
  apply ba_ext
  unfold hf1
  rw [ext_list]
  decide
theorem ex_h2 : hf2 exK = xbK := by
  apply ba_ext
  unfold hf2
  rw [ext_list]
  decide
theorem zS_1 : zS = z1B := by
  apply ba_ext
  unfold zS tx
  rw [mkS_list]
  decide
theorem ex_k1 : k1 xaK = tw (bF z1C) := by unfold k1; rw [zS_1, z1_enc]
theorem ex_k2 : k2 xaK = tw (tw (bF z1C)) := by unfold k2; rw [ex_k1]
theorem en_of {key : ByteArray} {f : Nat → By} {B C : ByteArray} (h : tx f = B) (e : encS key B = C) : en key f = bF C := by unfold en; rw [h, e]
/-- Of a text of 16 bytes. -/
theorem cm_16 (key s : ByteArray) (hs : s.size = 16) : cm key s = en key (pl (fun _ => 0) (pl (bF s) (k1 key))) := by
  have n0 : nB s = 0 := by unfold nB; omega
  have e : s.extract (16 * 0) s.size = s := by rw [Nat.mul_zero, ext_all]
  unfold cm BL
  rw [n0, e]
  have l0 : lsF key s = pl (bF s) (k1 key) := by unfold lsF; rw [if_pos hs]
  rw [l0]
  rfl
/-- Of a text of 17 to 31 bytes. -/
theorem cm_2 (key s : ByteArray) (h1 : 16 < s.size) (h2 : s.size < 32) : cm key s = en key (pl (en key (pl (fun _ => 0) (bF s))) (pl (flF (s.extract 16 s.size)) (k2 key))) := by
  have n1 : nB s = 1 := by unfold nB; omega
  unfold cm BL
  rw [n1, tgF_app]
  have z : (s.extract (16 * 1) s.size).size ≠ 16 := by rw [ByteArray.size_extract]; omega
  have l0 : lsF key (s.extract (16 * 1) s.size) = pl (flF (s.extract 16 s.size)) (k2 key) := by unfold lsF; rw [if_neg z]
  have b0 : bkF s 1 = [bF s] := by
    have : bkF s 1 = [bF (s.extract (16 * 0) s.size)] := rfl
    rw [this, Nat.mul_zero, ext_all]
  rw [l0, b0]
  rfl
theorem ex_d0 : cm xaK zS = bF z2C := by
  rw [cm_16 _ _ zS_size, ex_k1, zS_1]
  refine en_of ?_ z2_enc
  apply ba_ext
  rw [tx, mkS_list]
  decide +kernel
theorem ex_ad : cm xaK exA = bF z4C := by
  rw [cm_2 _ _ (by decide) (by decide), ex_k2]
  have e3 : en xaK (pl (fun _ => 0) (bF exA)) = bF z3C := by
    refine en_of ?_ z3_enc
    apply ba_ext
    rw [tx, mkS_list]
    decide +kernel
  rw [e3]
  refine en_of ?_ z4_enc
  apply ba_ext
  rw [tx, mkS_list]
  decide +kernel
theorem ex_rw : rwF xaK [exA] = pl (tw (bF z2C)) (bF z4C) := by
  have e : rwF xaK [exA] = pl (tw (cm xaK zS)) (cm xaK exA) := rwF_app xaK [] exA
  rw [e, ex_d0, ex_ad]
theorem ex_eT : eT (rwF xaK [exA]) exP = exT := by
  unfold eT
  rw [if_pos (by decide), ex_rw]
  apply ba_ext
  rw [tx, mkS_list]
  decide +kernel
theorem ex_v : vF exK [exA] exP = bF z5C := by
  unfold vF rowF
  rw [ex_h1, ex_eT, cm_16 _ _ (by decide), ex_k1]
  refine en_of ?_ z5_enc
  apply ba_ext
  rw [tx, mkS_list]
  decide +kernel
theorem ex_mk : tx (mk (bF z5C)) = z6B := by
  apply ba_ext
  rw [tx, mkS_list]
  decide +kernel
theorem ex_st : smS xbK (bF z6B) 14 = z6C.extract 0 14 := by
  unfold smS
  rw [show (14 + 15) / 16 = 1 from rfl]
  have e : stS xbK (bF z6B) 1 = z6C := by
    have e1 : stS xbK (bF z6B) 1 = ⟨#[]⟩ ++ tx (encF xbK (bF z6B)) := rfl
    rw [e1, ap_nil]
    exact z6_enc
  rw [e]
theorem ex_cr : crV xbK (bF z5C) exP = exC.extract 16 30 := by
  unfold crV
  rw [ex_mk, show exP.size = 14 by decide, ex_st]
  apply ba_ext
  unfold xS
  rw [mkS_list, ext_list]
  decide +kernel
theorem ex_slE : slE exK [exA].length = 0 := by decide
theorem ex_seal : seR exK [exA] exP = exC := by
  unfold seR
  rw [if_pos ex_slE]
  unfold seS
  rw [ex_v, ex_h2, ex_cr, tx_bF z5C (by decide)]
  apply ba_ext
  rw [ap_list, ext_list]
  decide +kernel
theorem awake_any (w : World) : Calls Try.prog 9 #[] w fun e w' => e = .returned (.bool true) ∧ Below w.heap.size w w' := by
  refine awake_core (seR exK [exA] exP) w ex_seal (fun W hW => ?_)
  have := sSeal_any exK (.slice (some ⟨w.heap.size, 0, none⟩) 1 1) [exA] exP (by decide) (fun s hs => by rw [List.mem_singleton.1 hs]; decide) (by decide) W hW
  rw [ex_slE] at this
  exact this
end Go.Proofs.Ytogkijjmimaccaa
