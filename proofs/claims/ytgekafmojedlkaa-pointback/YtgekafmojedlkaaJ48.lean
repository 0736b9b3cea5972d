/- Texts joined: H8, H9. -/
import Derived.Test.YtgekafmojedlkaaJ42
import Derived.Test.YtgekafmojedlkaaJ43
import Derived.Test.YtgekafmojedlkaaJ46
import Derived.Test.YtgekafmojedlkaaJ47
import Derived.Test.YtgekafmojedlkaaJ44
import Derived.Test.YtgekafmojedlkaaJ45
import Derived.Test.YtgekafmojedlkaaJ20
/- The examples of chapter 4: they come out as told. -/
set_option linter.all false
set_option maxRecDepth 100000
namespace Go.Proofs.Ytgekafmojedlkaa
variable [NeZero pN]
open Go.ChangeShapes Go.WideShapes Go.ChangeAt Go.RowKit Go.Sort
open Go.Sort (grow)
open Go.ChangeMaps (open_string shut_string)
theorem two_g : ad am gP gP = some (fi pN 56515219790691171413109057904011688695424810155802929973526481321309856242040, fi pN 3377031843712258259223711451491452598088675519751548567112458094635497583569) := by
  refine p256.is g_on g_on (Sm.s (fi pN gx) (fi pN gy) (fi pN gx) (fi pN gy) (fi pN 73404963663004311880882944372748989162084677934852963787452504780932599885725) _ _ ?_ ?_ ?_ ?_ ?_)
  · intro h
    exact p256.up _ _ g_on h.2
  · rw [← fi_sub, ← fi_sub, ← fi_mul, fi_eq]; decide +kernel
  · have e : am = fi pN (-3) := by
      rw [show (-3 : Int) = -(3) by rfl, fi_neg, three_fi]; rfl
    rw [e, ← fi_add, ← fi_mul, ← fi_mul, ← fi_add, ← fi_add, ← fi_add, fi_eq]; decide +kernel
  · rw [← fi_mul, ← fi_sub, ← fi_sub, fi_eq]; decide +kernel
  · rw [← fi_sub, ← fi_mul, ← fi_sub, fi_eq]; decide +kernel
theorem two_x : ptx (ad am gP gP) = 56515219790691171413109057904011688695424810155802929973526481321309856242040 := by
  rw [two_g]
  exact Bw.val ⟨by decide, by decide⟩
theorem tx_two : txS 56515219790691171413109057904011688695424810155802929973526481321309856242040 = ⟨#[55, 99, 102, 50, 55, 98, 49, 56, 56, 100, 48, 51, 52, 102, 55, 101, 56, 97, 53, 50, 51, 56, 48, 51, 48, 52, 98, 53, 49, 97, 99, 51, 99, 48, 56, 57, 54, 57, 101, 50, 55, 55, 102, 50, 49, 98, 51, 53, 97, 54, 48, 98, 52, 56, 102, 99, 52, 55, 54, 54, 57, 57, 55, 56]⟩ := by decide +kernel
theorem nv_2 : nv 2 = .agg #[.int .u64 2, .int .u64 0, .int .u64 0, .int .u64 0] := nv_low _ (by decide) (by decide)
theorem inn_2 : Inn 2 := inn_lit 2 (by decide) (by decide)
theorem pvP_g : pvP gP = pv gx gy false := by
  obtain ⟨a, b, c⟩ := gP_pn
  show pv (ptx gP) (pty gP) (pti gP) = _
  rw [← a, ← b, ← c]
theorem on_g : onB gx gy false = true := (onB_iff gx gy false gx_bw.inn gy_bw.inn).2 ⟨gP, gP_pn, g_on⟩
theorem big32 (N : Int) : (mkS (bgL N)).size = 32 := by rw [mkS_size]; simp [bgL]
/-- What Encode answers. -/
theorem enc_pt (X Y : Int) (hX : Inn X) (hY : Inn Y) (W : World) : Calls Try.prog 13 #[pv X Y false] W fun e w' => e = .returned (.string (mkS [4] ++ mkS (bgL X) ++ mkS (bgL Y))) ∧ Below W.heap.size W w' :=
  enc_core X Y _ _ (big32 X) (big32 Y) W (big_any X hX.1 hX.2) (big_any Y hY.1 hY.2)
theorem enc65 (X Y : Int) : (mkS [4] ++ mkS (bgL X) ++ mkS (bgL Y)).size = 65 := by
  rw [ByteArray.size_append, ByteArray.size_append, big32, big32, mkS_size]; rfl
theorem emp_no (s : ByteArray) (h : 0 < s.size) : (s.toList == ([] : List UInt8)) = false := by
  rw [ByteArray.toList_eq]
  have : s.data.toList.length = s.size := rfl
  cases hd : s.data.toList with
  | nil => rw [hd] at this; simp at this; omega
  | cons a l => rfl
theorem emp_yes (s : ByteArray) (h : s.size = 0) : (s.toList == ([] : List UInt8)) = true := by
  rw [ByteArray.toList_eq]
  have : s.data.toList.length = s.size := rfl
  cases hd : s.data.toList with
  | nil => rfl
  | cons a l => rw [hd] at this; simp at this; omega
theorem awake4 (w : World) : Calls Try.prog 17 #[] w fun e w' => e = .returned (.bool true) ∧ Below w.heap.size w w' := by
  refine awake_core (ptx (ad am gP gP)) (pty (ad am gP gP)) (pti (ad am gP gP)) (mkS [4] ++ mkS (bgL gx) ++ mkS (bgL gy)) (by rw [enc65]; rfl) w base_any ?_ ?_ ?_ ?_ ?_ (enc_pt gx gy gx_bw.inn gy_bw.inn)
  · intro W
    exact dec_1 ⟨#[2]⟩ (by decide) (by decide) (emp_no _ (by decide)) (by decide) W
  · intro W
    have h := add_pt gP gP g_on g_on W
    rw [pvP_g] at h
    exact h
  · intro W
    rw [two_x, ← tx_two]
    exact refText_any _ W
  · intro W
    have h := on_pt gx gy false gx_bw.inn gy_bw.inn W
    rw [on_g] at h
    exact h
  · intro W
    have h := mul_pt 2 inn_2 gP g_on W
    rw [mu_two gP g_on 1 (2 : Int).toNat rfl, p256.mu_one g_on, pvP_g, nv_2] at h
    exact h
/-- A point that came in is of the curve, or not. -/
theorem on_or (X Y : Int) (i : Bool) (hX : Inn X) (hY : Inn Y) : onB X Y i = false ∨ ∃ P, OnC am bm P ∧ pv X Y i = pvP P ∧ Pn X Y i P ∧ onB X Y i = true := by
  cases h : onB X Y i
  · exact .inl rfl
  · obtain ⟨P, p, o⟩ := (onB_iff X Y i hX hY).1 h
    refine .inr ⟨P, o, ?_, p, rfl⟩
    obtain ⟨rfl, rfl, rfl⟩ := p
    rfl
theorem ron_f {X Y : Int} {i : Bool} (hX : Inn X) (hY : Inn Y) (h : onB X Y i = false) (W : World) : Calls Try.prog 12 #[pv X Y i] W fun e w' => e = .returned (.bool false) ∧ Below W.heap.size W w' := by
  have k := ron_pt X Y i hX hY W
  rw [h] at k
  exact k
theorem ron_t (P : Cpt pN) (hP : OnC am bm P) (W : World) : Calls Try.prog 12 #[pvP P] W fun e w' => e = .returned (.bool true) ∧ Below W.heap.size W w' := by
  have k := ron_pt (ptx P) (pty P) (pti P) (cx_bw P).inn (cy_bw P).inn W
  rw [(onB_iff _ _ _ (cx_bw P).inn (cy_bw P).inn).2 ⟨P, ⟨rfl, rfl, rfl⟩, hP⟩] at k
  exact k
theorem pv_none : pvP none = .agg #[.int .u64 0, .int .u64 0, .int .u64 0, .int .u64 0, .int .u64 0, .int .u64 0, .int .u64 0, .int .u64 0, .bool true] := by
  have h : lim 0 0 = 0 ∧ lim 0 1 = 0 ∧ lim 0 2 = 0 ∧ lim 0 3 = 0 := by decide
  show pv 0 0 true = _
  simp only [pv, h.1, h.2.1, h.2.2.1, h.2.2.2]
end Go.Proofs.Ytgekafmojedlkaa
/- What Decode answers, of point and of the reference, in one word; bytes that are read are written as they were. -/
set_option linter.all false
set_option maxRecDepth 100000
namespace Go.Proofs.Ytgekafmojedlkaa
variable [NeZero pN]
open Go.ChangeShapes Go.WideShapes Go.ChangeAt Go.RowKit Go.Sort
open Go.Sort (grow)
open Go.ChangeMaps (open_string shut_string)
theorem bt_ext {n : Nat} {a b : ByteArray} (ha : a.size = n) (hb : b.size = n) (h : ∀ i, i < n → bt a i = bt b i) : a = b := by
  have : a.data = b.data := by
    apply Array.ext
    · have h1 : a.data.size = n := ha
      have h2 : b.data.size = n := hb
      omega
    · intro i h1 h2
      have hi : i < n := by have : a.data.size = n := ha; omega
      have := h i hi
      unfold bt at this
      rw [Array.getElem?_eq_getElem h1, Array.getElem?_eq_getElem h2] at this
      simp at this
      exact UInt8.toNat_inj.1 (by omega)
  cases a; cases b; simp at this; rw [this]
theorem bt_app (a b : ByteArray) (i : Nat) : bt (a ++ b) i = if i < a.size then bt a i else bt b (i - a.size) := by
  unfold bt
  rw [ByteArray.data_append, Array.getElem?_append]
  have : a.data.size = a.size := rfl
  rw [this]
  split <;> rfl
theorem bt_ex (s : ByteArray) (i j k : Nat) (hj : j ≤ s.size) (hk : k < j - i) : bt (s.extract i j) k = bt s (i + k) := by
  unfold bt
  rw [ByteArray.data_extract, Array.getElem?_extract]
  have : s.data.size = s.size := rfl
  rw [if_pos (by rw [this, Nat.min_eq_left hj]; exact hk)]
theorem ex_size (s : ByteArray) (i j : Nat) (hj : j ≤ s.size) : (s.extract i j).size = j - i := by
  rw [ByteArray.size_extract, Nat.min_eq_left hj]
theorem byt_pn (f : Nat → Int) (hf : ∀ i, 0 ≤ f i ∧ f i < 2 ^ 8) (i : Nat) (hi : i < 32) : byt (pn 8 f 32) i = f i := by
  have a := pn_add 8 f (i + 1) (31 - i)
  rw [show i + 1 + (31 - i) = 32 by omega] at a
  have b0 := pn_nn 8 (sh f (i + 1)) (fun j => (hf _).1) (31 - i)
  have b1 := pn_lt 8 (sh f (i + 1)) (fun j => hf _) (31 - i)
  have q : (0 : Int) < 2 ^ (8 * (31 - i)) := Int.pow_pos (by omega)
  unfold byt
  rw [a, Int.add_comm, Int.add_mul_ediv_right _ _ (Int.ne_of_gt q), Int.ediv_eq_zero_of_lt b0 b1, Int.zero_add]
  show (pn 8 f i * 2 ^ 8 + f i) % 256 = f i
  have := hf i
  simp at this ⊢
  omega
theorem bt_bg (N : Int) (i : Nat) (hi : i < 32) : bt (mkS (bgL N)) i = byt N i := by
  have b := byt_bd N i
  exact mkS_bt _ i _ (bgL_at N i hi) b.1 b.2
theorem big_of (u : ByteArray) (h : u.size = 32) : mkS (bgL (fbN u)) = u := by
  refine bt_ext (big32 _) h fun i hi => ?_
  rw [bt_bg _ i hi]
  unfold fbN
  rw [if_pos h, byt_pn _ (bt_8 u) i hi]
theorem of_big (N : Int) (h : Inn N) : fbN (mkS (bgL N)) = N := by
  unfold fbN
  rw [if_pos (big32 N)]
  exact big_back N h.1 h.2
theorem inn_fb (u : ByteArray) : Inn (fbN u) := by
  unfold fbN
  split
  · refine ⟨pn_nn 8 _ (fun j => (bt_8 u j).1) 32, ?_⟩
    have := pn_lt 8 (bt u) (bt_8 u) 32
    have e : (2 : Int) ^ (8 * 32) = top256 := by decide
    rw [e] at this
    exact this
  · exact inn_lit 0 (by decide) (by decide)
theorem bt_4 : bt (mkS [4]) 0 = 4 := by decide +kernel
theorem four_1 : (mkS [4]).size = 1 := by rw [mkS_size]; rfl
/-- 65 bytes that begin with 4 are 4 and two texts of 32. -/
theorem join65 (s : ByteArray) (hn : s.size = 65) (hb : bt s 0 = 4) : mkS [4] ++ s.extract 1 33 ++ s.extract 33 65 = s := by
  have e1 := ex_size s 1 33 (by omega)
  have e2 := ex_size s 33 65 (by omega)
  refine bt_ext (n := 65) (by rw [ByteArray.size_append, ByteArray.size_append, four_1, e1, e2]) hn fun i hi => ?_
  rw [bt_app, bt_app, ByteArray.size_append, four_1, e1]
  by_cases c : i < 33
  · rw [if_pos (by omega)]
    by_cases d : i < 1
    · obtain rfl : i = 0 := by omega
      rw [if_pos (by omega), bt_4, hb]
    · rw [if_neg d, bt_ex s 1 33 (i - 1) (by omega) (by omega), show 1 + (i - 1) = i by omega]
  · rw [if_neg (by omega), bt_ex s 33 65 _ (by omega) (by omega), show 33 + (i - (1 + (33 - 1))) = i by omega]
theorem cut65 (a b : ByteArray) (ha : a.size = 32) (hb : b.size = 32) : bt (mkS [4] ++ a ++ b) 0 = 4 ∧ (mkS [4] ++ a ++ b).extract 1 33 = a ∧ (mkS [4] ++ a ++ b).extract 33 65 = b := by
  have sz : (mkS [4] ++ a ++ b).size = 65 := by rw [ByteArray.size_append, ByteArray.size_append, four_1, ha, hb]
  have z : (mkS [4] ++ a).size = 33 := by rw [ByteArray.size_append, four_1, ha]
  refine ⟨?_, ?_, ?_⟩
  · rw [bt_app, bt_app, z, four_1, if_pos (by omega), if_pos (by omega), bt_4]
  · refine bt_ext (n := 32) (ex_size _ 1 33 (by omega)) ha fun i hi => ?_
    rw [bt_ex _ 1 33 i (by omega) (by omega), bt_app, bt_app, z, four_1, if_pos (by omega), if_neg (by omega), show 1 + i - 1 = i by omega]
  · refine bt_ext (n := 32) (ex_size _ 33 65 (by omega)) hb fun i hi => ?_
    rw [bt_ex _ 33 65 i (by omega) (by omega), bt_app, z, if_neg (by omega), show 33 + i - 33 = i by omega]
theorem pv_zero : pv 0 0 false = .agg #[.int .u64 0, .int .u64 0, .int .u64 0, .int .u64 0, .int .u64 0, .int .u64 0, .int .u64 0, .int .u64 0, .bool false] := by
  have h : lim 0 0 = 0 ∧ lim 0 1 = 0 ∧ lim 0 2 = 0 ∧ lim 0 3 = 0 := by decide
  simp only [pv, h.1, h.2.1, h.2.2.1, h.2.2.2]
/-- Decode, of both. -/
theorem dec_both (s : ByteArray) (hs : s.size ≤ maxLen) : ∃ X Y er : Int,
    (∀ W, Calls Try.prog 7 #[.string s] W fun e w' => e = .returned (.tuple #[pv X Y false, .int .i64 er]) ∧ Below W.heap.size W w') ∧
    (∀ W, Calls Try.prog 8 #[.string s] W fun e w' => e = .returned (.tuple #[pv X Y false, .int .i64 er]) ∧ Below W.heap.size W w') ∧
    (er = 0 → Inn X ∧ Inn Y ∧ onB X Y false = true ∧ mkS [4] ++ mkS (bgL X) ++ mkS (bgL Y) = s) := by
  by_cases z : s.size = 0
  · refine ⟨0, 0, 11, fun W => ?_, fun W => ?_, fun h => absurd h (by decide)⟩ <;> rw [pv_zero]
    · exact dec_0 s hs (emp_yes s z) W
    · exact rdec_0 s hs (emp_yes s z) W
  have h0 : 0 < s.size := by omega
  have hE := emp_no s h0
  cases hb : (bt s 0 == 4)
  · refine ⟨0, 0, 10, fun W => ?_, fun W => ?_, fun h => absurd h (by decide)⟩ <;> rw [pv_zero]
    · exact dec_1 s hs h0 hE hb W
    · exact rdec_1 s hs h0 hE hb W
  rcases Int.lt_trichotomy (s.size : Int) 65 with hn | hn | hn
  · refine ⟨0, 0, 11, fun W => ?_, fun W => ?_, fun h => absurd h (by decide)⟩ <;> rw [pv_zero]
    · exact dec_2 s hs h0 hE hb hn W
    · exact rdec_2 s hs h0 hE hb hn W
  · have n65 : s.size = 65 := by omega
    have e1 := ex_size s 1 33 (by omega)
    have e2 := ex_size s 33 65 (by omega)
    have m : ∀ u : ByteArray, u.size = 32 → u.size ≤ maxLen := fun u h => by rw [h]; decide
    have m2 : ∀ u : ByteArray, u.size = 32 → (u.size : Int) ≤ 281474976710656 := fun u h => by rw [h]; decide
    have c1 := fromBig_u (s.extract 1 33) (m _ e1)
    have c2 := fromBig_u (s.extract 33 65) (m _ e2)
    have r1 := refFromBig_u (s.extract 1 33) (m2 _ e1)
    have r2 := refFromBig_u (s.extract 33 65) (m2 _ e2)
    have i1 := inn_fb (s.extract 1 33)
    have i2 := inn_fb (s.extract 33 65)
    have o1 := on_pt _ _ false i1 i2
    have o2 := ron_pt _ _ false i1 i2
    cases ho : onB (fbN (s.extract 1 33)) (fbN (s.extract 33 65)) false
    · rw [ho] at o1 o2
      refine ⟨0, 0, 15, fun W => ?_, fun W => ?_, fun h => absurd h (by decide)⟩
      · refine dec_4 s hs h0 hE hb hn 0 0 15 false W (fun W => ?_)
        rw [pv_zero]
        exact from_no _ _ _ _ _ _ W c1 c2 o1
      · rw [pv_zero]
        exact rdec_no s hs h0 hE hb hn _ _ _ _ W r1 r2 o2
    · rw [ho] at o1 o2
      refine ⟨_, _, 0, fun W => dec_4 s hs h0 hE hb hn _ _ 0 false W (fun W => from_yes _ _ _ _ _ _ W c1 c2 o1), fun W => rdec_yes s hs h0 hE hb hn _ _ _ _ W r1 r2 o2, fun _ => ⟨i1, i2, ho, ?_⟩⟩
      rw [big_of _ e1, big_of _ e2]
      exact join65 s n65 (by simpa using hb)
  · refine ⟨0, 0, 12, fun W => ?_, fun W => ?_, fun h => absurd h (by decide)⟩ <;> rw [pv_zero]
    · exact dec_3 s hs h0 hE hb hn W
    · exact rdec_3 s hs h0 hE hb hn W
/-- Decode of what Encode writes. -/
theorem dec_enc (X Y : Int) (hX : Inn X) (hY : Inn Y) (h : onB X Y false = true) (W : World) :
    Calls Try.prog 7 #[.string (mkS [4] ++ mkS (bgL X) ++ mkS (bgL Y))] W fun e w' => e = .returned (.tuple #[pv X Y false, .int .i64 0]) ∧ Below W.heap.size W w' := by
  obtain ⟨b, c1, c2⟩ := cut65 (mkS (bgL X)) (mkS (bgL Y)) (big32 X) (big32 Y)
  have sz := enc65 X Y
  have m : ∀ u : ByteArray, u.size = 32 → u.size ≤ maxLen := fun u h => by rw [h]; decide
  have f1 := fromBig_u (mkS (bgL X)) (m _ (big32 X))
  have f2 := fromBig_u (mkS (bgL Y)) (m _ (big32 Y))
  rw [of_big X hX] at f1
  rw [of_big Y hY] at f2
  have o := on_pt X Y false hX hY
  rw [h] at o
  refine dec_4 _ (by rw [sz]; decide) (by rw [sz]; decide) (emp_no _ (by rw [sz]; decide)) (by rw [b]; rfl) (by rw [sz]; rfl) X Y 0 false W (fun W => ?_)
  rw [c1, c2]
  exact from_yes _ _ _ _ _ _ W f1 f2 o
end Go.Proofs.Ytgekafmojedlkaa
