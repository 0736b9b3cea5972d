/- Texts joined: L1, M1. -/
import Derived.Test.YtjaljnfijhfkcaaGreatDoorJ23
import Derived.Test.YtjaljnfijhfkcaaGreatDoorJ25
/- The law's own words: few, awake. -/
set_option linter.all false
set_option maxRecDepth 100000
namespace Go.Proofs.YtjaljnfijhfkcaaGreatDoor
open Go.RowKit Go.Sort Lin
def fwB (s : ByteArray) : Bool := decide (s.size ≤ 700 ∨ 16656 < s.size)
theorem few_any (s : ByteArray) (w : World) : Calls Tryz.prog 6 #[.string s] w fun e w' => e = .returned (.bool (fwB s)) ∧ w' = w := by
  by_cases h1 : s.size ≤ 700
  · have e : fwB s = true := by unfold fwB; exact decide_eq_true (.inl h1)
    have i1 : (s.size : Int) ≤ 700 := by omega
    rw [e]
    clear e h1
    go_enter Tryz.func6, Tryz.ntmps6
    go_wp2
    go_ret
    exact ⟨by simp [i1], rfl⟩
  · have i1 : ¬ (s.size : Int) ≤ 700 := by omega
    by_cases h2 : 16656 < s.size
    · have e : fwB s = true := by unfold fwB; exact decide_eq_true (.inr h2)
      have i2 : (16656 : Int) < (s.size : Int) := by omega
      rw [e]
      clear e h1 h2
      go_enter Tryz.func6, Tryz.ntmps6
      go_wp2
      go_ret
      exact ⟨by simp [i1, i2], rfl⟩
    · have e : fwB s = false := by unfold fwB; exact decide_eq_false (by omega)
      have i2 : ¬ (16656 : Int) < (s.size : Int) := by omega
      rw [e]
      clear e h1 h2
      go_enter Tryz.func6, Tryz.ntmps6
      go_wp2
      go_ret
      exact ⟨by simp [i1, i2], rfl⟩
theorem aw_frame : frE 22 ⟨#[120]⟩ = 0 ∧ frS 22 ⟨#[120]⟩ = ⟨#[22, 3, 3, 0, 1, 120]⟩ := by
  have e : frE 22 ⟨#[120]⟩ = 0 := by decide
  refine ⟨e, ?_⟩
  unfold frS
  rw [if_pos e]
  apply ba_ext
  rw [ap_list]
  unfold hdS
  rw [mkS_list]
  rfl
theorem aw_form : ufE ⟨#[23, 3, 4]⟩ = 10 := by
  have h0 : bt ⟨#[23, 3, 4]⟩ 0 = 23 := rfl
  have h1 : bt ⟨#[23, 3, 4]⟩ 1 = 3 := rfl
  have h2 : bt ⟨#[23, 3, 4]⟩ 2 = 4 := rfl
  have hz : (⟨#[23, 3, 4]⟩ : ByteArray).size = 3 := rfl
  have e : rhE ⟨#[23, 3, 4]⟩ = 10 := by
    unfold rhE
    rw [if_neg (by rw [hz]; decide), h0, if_pos (show knB 23 = true from rfl), if_neg (by rw [hz]; decide), if_pos h1, if_neg (by rw [hz]; decide), if_neg (by rw [h2]; decide)]
  unfold ufE
  rw [e, if_neg (by decide)]
theorem aw_split : (pcs ⟨#[97, 98]⟩).length = 1 := by
  unfold pcs upP nP
  rw [List.length_map, List.length_range]
  rfl
set_option maxHeartbeats 1000000 in
theorem awake_any (w : World) : Calls Tryz.prog 7 #[] w fun e w' => e = .returned (.bool true) ∧ Below w.heap.size w w' := by
  have C1 := fun W => Frame_any 22 ⟨#[120]⟩ W
  rw [aw_frame.1, aw_frame.2] at C1
  have C2 := fun W => Unframe_any ⟨#[23, 3, 4]⟩ W
  have u1 : ufK ⟨#[23, 3, 4]⟩ = 0 := by unfold ufK; rw [aw_form, if_neg (by decide)]
  have u2 : ufB ⟨#[23, 3, 4]⟩ = ⟨#[]⟩ := by unfold ufB; rw [aw_form, if_neg (by decide)]
  have u3 : ufR ⟨#[23, 3, 4]⟩ = ⟨#[]⟩ := by unfold ufR; rw [aw_form, if_neg (by decide)]
  rw [aw_form, u1, u2, u3] at C2
  have C3 := fun W => Split_any 23 ⟨#[97, 98]⟩ (by decide) W
  rw [aw_split] at C3
  unfold rcV at C1 C2
  go_enter Tryz.func7, Tryz.ntmps7
  go_wp2_with (first | (go_at_call 14; refine (C1 _).mono ?_; rintro e w1 ⟨rfl, b1⟩) | (go_at_call 15; refine (C2 _).mono ?_; rintro e w2 ⟨rfl, b2⟩) | (go_at_call 16; refine (C3 _).mono ?_; rintro e w3 ⟨v, rfl, hv, b3⟩; obtain ⟨ao, cv, rfl⟩ := own_formR hv))
  go_ret
  exact ⟨rfl, Bel.call (Bel.al (Bel.call b1 b2) _) b3⟩
end Go.Proofs.YtjaljnfijhfkcaaGreatDoor
/- There and back: what is sealed is opened; nonces of unlike places are unlike. -/
set_option linter.all false
set_option maxRecDepth 100000
namespace Go.Proofs.YtjaljnfijhfkcaaGreatDoor
open Go.RowKit Go.Sort Lin
theorem xS_bF (a b : ByteArray) (j : Nat) (hj : j < a.size) : bF (xS a b) j = xr (bF a j) (bF b j) := by
  apply Fin.ext
  have := mkS_bt (xL a.size (bF a) (bF b)) j ((xr (bF a j) (bF b j)).val : Int) (by simp [xL, hj]) (by omega) (by have := (xr (bF a j) (bF b j)).2; omega)
  have e := bF_bt (xS a b) j
  unfold xS at e ⊢
  omega
theorem text_ext {a b : ByteArray} (hs : a.size = b.size) (h : ∀ j, j < a.size → bF a j = bF b j) : a = b := by
  apply ba_ext
  apply List.ext_getElem?
  intro j
  by_cases hj : j < a.size
  · have e := h j hj
    have h1 : j < a.data.size := hj
    have h2 : j < b.data.size := by show j < b.size; omega
    rw [Array.getElem?_toList, Array.getElem?_toList, Array.getElem?_eq_getElem h1, Array.getElem?_eq_getElem h2]
    have v := congrArg Fin.val e
    simp only [bF, bt, Array.getElem?_eq_getElem h1, Array.getElem?_eq_getElem h2, Option.getD_some, Int.toNat_natCast] at v
    exact congrArg some (UInt8.toNat_inj.1 v)
  · rw [List.getElem?_eq_none (by rw [len_list]; omega), List.getElem?_eq_none (by rw [len_list]; omega)]
/-- Crossed twice is not at all. -/
theorem cr_cr (key nonce t : ByteArray) : crS key nonce (crS key nonce t) = t := by
  refine text_ext (by rw [crS_size, crS_size]) (fun j hj => ?_)
  rw [crS_size, crS_size] at hj
  have e : crS key nonce (crS key nonce t) = xS (crS key nonce t) (smS key (bF (nonce ++ n2)) t.size) := by
    show xS (crS key nonce t) (smS key (bF (nonce ++ n2)) (crS key nonce t).size) = _
    rw [crS_size]
  rw [e, xS_bF _ _ j (by rw [crS_size]; exact hj)]
  show xr (bF (xS t (smS key (bF (nonce ++ n2)) t.size)) j) _ = _
  rw [xS_bF _ _ j hj, xr_back]
theorem ext_all (a : ByteArray) : a.extract 0 a.size = a := by
  apply ba_ext
  rw [ext_list, List.drop_zero, Nat.sub_zero, List.take_of_length_le (by rw [len_list]; exact Nat.le_refl _)]
theorem cut1_app (c t : ByteArray) (ht : t.size = 16) : cut1 (c ++ t) = c := by
  unfold cut1
  rw [app_size, ht, Nat.add_sub_cancel, ext_app_lo _ _ _ (Nat.le_refl _), ext_all]
theorem cut2_app (c t : ByteArray) (ht : t.size = 16) : cut2 (c ++ t) = t := by
  unfold cut2
  apply ba_ext
  rw [ext_list, ap_list, app_size, ht, Nat.add_sub_cancel, List.drop_left' (len_list c), List.take_of_length_le (by rw [len_list]; omega)]
theorem cut_back (s : ByteArray) (hs : 16 ≤ s.size) : cut1 s ++ cut2 s = s := by
  apply ba_ext
  unfold cut1 cut2
  rw [ap_list, ext_list, ext_list, List.drop_zero, Nat.sub_zero]
  rw [List.take_of_length_le (l := s.data.toList.drop (s.size - 16)) (by rw [List.length_drop, len_list]; omega)]
  exact List.take_append_drop _ _
theorem seS_size (k n a p : ByteArray) : (seS k n a p).size = p.size + 16 := by unfold seS; rw [app_size, tN_size, crS_size]
/-- What is sealed is opened. -/
theorem op_se (k n a p : ByteArray) (h : rfg k n = 0) : opE k n a (seS k n a p) = 0 ∧ opS k n a (seS k n a p) = p := by
  have z := seS_size k n a p
  have c1 : cut1 (seS k n a p) = crS k n p := cut1_app _ _ (tN_size _)
  have c2 : cut2 (seS k n a p) = tN (tgN k n a (crS k n p)) := cut2_app _ _ (tN_size _)
  have e : opE k n a (seS k n a p) = 0 := by
    unfold opE
    rw [if_pos h, if_neg (by omega), c1, c2, bN_tN (tgN_lt _ _ _ _), if_pos rfl]
  refine ⟨e, ?_⟩
  unfold opS
  rw [if_pos e, c1, cr_cr]
theorem drop_rep (c x : UInt8) (hx : x ≠ c) (r : List UInt8) : ∀ n, (List.replicate n c ++ x :: r).dropWhile (· == c) = x :: r := by
  intro n
  induction n with
  | zero => rw [List.replicate_zero, List.nil_append, List.dropWhile_cons_of_neg (by simpa using hx)]
  | succ n ih => rw [List.replicate_succ, List.cons_append, List.dropWhile_cons_of_pos (by simp), ih]
theorem tr_wiS (k : Int) (b : ByteArray) (n : Nat) (h0 : 0 < k) (h1 : k < 256) : trS (wiS k b n) = b ++ mkS [k % 256] := by
  apply ba_ext
  rw [trS_list]
  unfold wiS
  rw [ap_list, zS_list, ap_list, mkS_list]
  unfold Lib.trimRightB
  simp only [List.map_cons, List.map_nil, List.reverse_append, List.reverse_replicate, List.reverse_cons, List.reverse_nil, List.nil_append, List.cons_append]
  rw [drop_rep 0 _ (by
    intro c
    have := congrArg UInt8.toNat c
    rw [UInt8.toNat_ofNat'] at this
    have e : (k % 256).toNat % 256 = (k % 256).toNat := by omega
    have z : (0 : UInt8).toNat = 0 := rfl
    rw [z] at this
    omega)]
  simp
theorem wi_wiS (k : Int) (b : ByteArray) (n : Nat) (hk : knB k = true) (hz : b.size + n ≤ 16384) : wiE (wiS k b n) = 0 ∧ wiV (wiS k b n) = rcV k b := by
  obtain ⟨k0, k1⟩ := (knB_iff k).1 hk
  have zt := wiS_size k b n
  have et := tr_wiS k b n (by omega) (by omega)
  have z1 : (mkS [k % 256]).size = 1 := by rw [mkS_size]; rfl
  have zs : (trS (wiS k b n)).size = b.size + 1 := by rw [et, ByteArray.size_append, z1]
  have eb : bt (trS (wiS k b n)) b.size = k := by
    rw [et]
    unfold bt
    have : (b ++ mkS [k % 256]).data[b.size]? = some (UInt8.ofNat (k % 256).toNat) := by
      rw [← Array.getElem?_toList, ap_list, List.getElem?_append_right (by rw [len_list]; exact Nat.le_refl _), len_list, Nat.sub_self, mkS_list]
      rfl
    rw [this]
    show ((UInt8.ofNat (k % 256).toNat).toNat : Int) = k
    rw [UInt8.toNat_ofNat']
    omega
  have e : wiE (wiS k b n) = 0 := by
    unfold wiE
    rw [if_neg (by omega), if_neg (by omega), zs, Nat.add_sub_cancel, eb, if_pos hk]
  refine ⟨e, ?_⟩
  unfold wiV
  rw [if_pos e, zs, Nat.add_sub_cancel, eb, et, ext_app_lo _ _ _ (Nat.le_refl _), ext_all]
/-- What Protect seals. -/
def slS (key iv : ByteArray) (q : Int) (t : ByteArray) : ByteArray := seS key (noS iv q) (hdS 23 ((t.size : Int) + 16)) t
theorem slS_size (key iv : ByteArray) (q : Int) (t : ByteArray) : (slS key iv q t).size = t.size + 16 := seS_size _ _ _ _
theorem ptS_is (key iv : ByteArray) (q : Int) (t : ByteArray) : ptS key iv q t = hdS 23 ((slS key iv q t).size : Int) ++ slS key iv q t := by
  unfold ptS
  rw [slS_size]
  rfl
theorem prE_0 {key iv : ByteArray} {q k : Int} {b : ByteArray} {p : Int} (h : prE key iv q k b p = 0) : knB k = true ∧ b.size ≤ 16384 ∧ 0 ≤ p ∧ (b.size : Int) + p ≤ 16384 ∧ key.size = 16 ∧ iv.size = 12 ∧ q ≠ 18446744073709551615 ∧ diE key iv q = 0 := by
  unfold prE at h
  rcases usE_cases k b p with ⟨_, e⟩ | ⟨_, _, e⟩ | ⟨_, _, _, e⟩ | ⟨h1, h2, h3, e⟩
  · rw [e, if_neg (by decide)] at h; omega
  · rw [e, if_neg (by decide)] at h; omega
  · rw [e, if_neg (by decide)] at h; omega
  · rw [if_pos e] at h
    have hd := h
    unfold diE at h
    by_cases h4 : noE key iv = 0
    · rw [if_pos h4] at h
      by_cases h5 : q = 18446744073709551615
      · rw [if_pos h5] at h; omega
      · obtain ⟨a, c⟩ := noE_0 h4
        exact ⟨h1, by omega, h3.1, by omega, a, c, h5, hd⟩
    · rw [if_neg h4] at h; exact absurd h h4
theorem up_back {key iv : ByteArray} {q k : Int} {b : ByteArray} {p : Int} (h : prE key iv q k b p = 0) :
    upE key iv q 23 (slS key iv q (wiS k b p.toNat)) = 0 ∧ upQ key iv q 23 (slS key iv q (wiS k b p.toNat)) = q + 1 ∧ upV key iv q 23 (slS key iv q (wiS k b p.toNat)) = rcV k b := by
  obtain ⟨hk, hb, p0, hp, h16, h12, hq, hd⟩ := prE_0 h
  have zt := wiS_size k b p.toNat
  have zs := slS_size key iv q (wiS k b p.toNat)
  obtain ⟨w1, w2⟩ := wi_wiS k b p.toNat hk (by omega)
  have r := rfg_ok h16 (noS_size iv q)
  have ha : hdS 23 ((slS key iv q (wiS k b p.toNat)).size : Int) = hdS 23 (((wiS k b p.toNat).size : Int) + 16) := by rw [zs]; rfl
  obtain ⟨o1, o2⟩ := op_se key (noS iv q) (hdS 23 (((wiS k b p.toNat).size : Int) + 16)) (wiS k b p.toNat) r
  have n : ¬ (rfg key (noS iv q) = 0 ∧ 65552 < (slS key iv q (wiS k b p.toNat)).size) := by omega
  have e1 : oqE key (noS iv q) (hdS 23 ((slS key iv q (wiS k b p.toNat)).size : Int)) (slS key iv q (wiS k b p.toNat)) = 0 := by
    unfold oqE
    rw [if_neg n, ha]
    exact o1
  have e2 : oqS key (noS iv q) (hdS 23 ((slS key iv q (wiS k b p.toNat)).size : Int)) (slS key iv q (wiS k b p.toNat)) = wiS k b p.toNat := by
    unfold oqS
    rw [if_neg n, ha]
    exact o2
  have e : upE key iv q 23 (slS key iv q (wiS k b p.toNat)) = 0 := by
    unfold upE
    rw [if_pos hd, if_pos rfl, e1, if_pos rfl, e2, w1]
  refine ⟨e, by unfold upQ; rw [if_pos e], ?_⟩
  unfold upV
  rw [if_pos e, e2, w2]
theorem q_step (a b : Int) (h : a / 256 = b / 256) (h2 : a % 256 = b % 256) : a = b := by omega
theorem q_div (q : Int) (i : Nat) : q / 2 ^ (8 * i) / 256 = q / 2 ^ (8 * (i + 1)) := by
  rw [Int.ediv_ediv_of_nonneg (Int.le_of_lt (Int.pow_pos (by decide)))]
  congr 1
  rw [show 8 * (i + 1) = 8 * i + 8 by omega, Int.pow_add]
  rfl
theorem noS_bF (iv : ByteArray) (q : Int) (j : Nat) (h : 4 ≤ j) (hj : j < 12) : bF (noS iv q) j = xr (bF iv j) (qB q (11 - j)) := by
  apply Fin.ext
  have := mkS_bt ((List.range 12).map fun j => ((noF (bF iv) q 8 j).val : Int)) j ((noF (bF iv) q 8 j).val : Int) (by simp [hj]) (by omega) (by have := (noF (bF iv) q 8 j).2; omega)
  have e := bF_bt (noS iv q) j
  unfold noS at e ⊢
  have f : noF (bF iv) q 8 j = xr (bF iv j) (qB q (11 - j)) := by unfold noF; rw [if_pos (by omega)]
  rw [← f]
  omega
theorem noS_inj (iv : ByteArray) (q r : Int) (q0 : 0 ≤ q) (q1 : q < 18446744073709551616) (r0 : 0 ≤ r) (r1 : r < 18446744073709551616) (h : noS iv q = noS iv r) : q = r := by
  have H : ∀ i, i < 8 → q / 2 ^ (8 * i) % 256 = r / 2 ^ (8 * i) % 256 := fun i hi => by
    have h1 := noS_bF iv q (11 - i) (by omega) (by omega)
    have h2 := noS_bF iv r (11 - i) (by omega) (by omega)
    rw [h, h2, show 11 - (11 - i) = i by omega] at h1
    have : qB r i = qB q i := by
      have := congrArg (fun z => xr z (bF iv (11 - i))) h1
      simp only [xr_comm (bF iv (11 - i)), xr_back] at this
      exact this
    rw [← qB_is, ← qB_is, this]
  have top : q / 2 ^ (8 * 8) = r / 2 ^ (8 * 8) := by
    have a : (2 : Int) ^ (8 * 8) = 18446744073709551616 := by decide
    rw [a, Int.ediv_eq_zero_of_lt q0 q1, Int.ediv_eq_zero_of_lt r0 r1]
  have st : ∀ i, i < 8 → q / 2 ^ (8 * (i + 1)) = r / 2 ^ (8 * (i + 1)) → q / 2 ^ (8 * i) = r / 2 ^ (8 * i) := fun i hi e => q_step _ _ (by rw [q_div, q_div]; exact e) (H i hi)
  have := st 0 (by omega) (st 1 (by omega) (st 2 (by omega) (st 3 (by omega) (st 4 (by omega) (st 5 (by omega) (st 6 (by omega) (st 7 (by omega) top)))))))
  simpa using this
end Go.Proofs.YtjaljnfijhfkcaaGreatDoor
