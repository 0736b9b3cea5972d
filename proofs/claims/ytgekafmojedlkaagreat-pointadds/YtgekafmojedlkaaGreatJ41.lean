/- The examples of chapter 4: they come out as told. -/
import Derived.Test.YtgekafmojedlkaaGreatJ37
import Derived.Test.YtgekafmojedlkaaGreatJ38
import Derived.Test.YtgekafmojedlkaaGreatJ39
import Derived.Test.YtgekafmojedlkaaGreatJ40
import Derived.Test.YtgekafmojedlkaaGreatJ6
set_option linter.all false
set_option maxRecDepth 100000
namespace Go.Proofs.YtgekafmojedlkaaGreat
variable [NeZero pN]
open Go.ChangeShapes Go.WideShapes Go.ChangeAt Go.RowKit Go.Sort
open Go.Sort (grow)
open Go.ChangeMaps (open_string shut_string)
theorem two_g : ad am gP gP = some (fi pN 56515219790691171413109057904011688695424810155802929973526481321309856242040, fi pN 3377031843712258259223711451491452598088675519751548567112458094635497583569) := by
  refine p256.is g_on g_on (Sm.s (fi pN gx) (fi pN gy) (fi pN gx) (fi pN gy) (fi pN 73404963663004311880882944372748989162084677934852963787452504780932599885725) _ _ ?_ ?_ ?_ ?_ ?_)
  · intro h
    exact p256.up _ _ g_on h.2
  · rw [← fi_sub, ← fi_sub, ← fi_mul, fi_eq]; decide +kernel
  · have e : am = fi pN (-3) := by
      rw [show (-3 : Int) = -(3) by rfl, fi_neg, three_fi]; rfl
    rw [e, ← fi_add, ← fi_mul, ← fi_mul, ← fi_add, ← fi_add, ← fi_add, fi_eq]; decide +kernel
  · rw [← fi_mul, ← fi_sub, ← fi_sub, fi_eq]; decide +kernel
  · rw [← fi_sub, ← fi_mul, ← fi_sub, fi_eq]; decide +kernel
theorem two_x : ptx (ad am gP gP) = 56515219790691171413109057904011688695424810155802929973526481321309856242040 := by
  rw [two_g]
  exact Bw.val ⟨by decide, by decide⟩
theorem tx_two : txS 56515219790691171413109057904011688695424810155802929973526481321309856242040 = ⟨#[55, 99, 102, 50, 55, 98, 49, 56, 56, 100, 48, 51, 52, 102, 55, 101, 56, 97, 53, 50, 51, 56, 48, 51, 48, 52, 98, 53, 49, 97, 99, 51, 99, 48, 56, 57, 54, 57, 101, 50, 55, 55, 102, 50, 49, 98, 51, 53, 97, 54, 48, 98, 52, 56, 102, 99, 52, 55, 54, 54, 57, 57, 55, 56]⟩ := by decide +kernel
theorem nv_2 : nv 2 = .agg #[.int .u64 2, .int .u64 0, .int .u64 0, .int .u64 0] := nv_low _ (by decide) (by decide)
theorem inn_2 : Inn 2 := inn_lit 2 (by decide) (by decide)
theorem pvP_g : pvP gP = pv gx gy false := by
  obtain ⟨a, b, c⟩ := gP_pn
  show pv (ptx gP) (pty gP) (pti gP) = _
  rw [← a, ← b, ← c]
theorem on_g : onB gx gy false = true := (onB_iff gx gy false gx_bw.inn gy_bw.inn).2 ⟨gP, gP_pn, g_on⟩
theorem big32 (N : Int) : (mkS (bgL N)).size = 32 := by rw [mkS_size]; simp [bgL]
/-- What Encode answers. -/
theorem enc_pt (X Y : Int) (hX : Inn X) (hY : Inn Y) (W : World) : Calls Tryz.prog 22 #[pv X Y false] W fun e w' => e = .returned (.string (mkS [4] ++ mkS (bgL X) ++ mkS (bgL Y))) ∧ Below W.heap.size W w' :=
  enc_core X Y _ _ (big32 X) (big32 Y) W (big_any X hX.1 hX.2) (big_any Y hY.1 hY.2)
theorem enc65 (X Y : Int) : (mkS [4] ++ mkS (bgL X) ++ mkS (bgL Y)).size = 65 := by
  rw [ByteArray.size_append, ByteArray.size_append, big32, big32, mkS_size]; rfl
theorem emp_no (s : ByteArray) (h : 0 < s.size) : (s.toList == ([] : List UInt8)) = false := by
  rw [ByteArray.toList_eq]
  have : s.data.toList.length = s.size := rfl
  cases hd : s.data.toList with
  | nil => rw [hd] at this; simp at this; omega
  | cons a l => rfl
theorem emp_yes (s : ByteArray) (h : s.size = 0) : (s.toList == ([] : List UInt8)) = true := by
  rw [ByteArray.toList_eq]
  have : s.data.toList.length = s.size := rfl
  cases hd : s.data.toList with
  | nil => rfl
  | cons a l => rw [hd] at this; simp at this; omega
theorem awake4 (w : World) : Calls Tryz.prog 5 #[] w fun e w' => e = .returned (.bool true) ∧ Below w.heap.size w w' := by
  refine awake_core (ptx (ad am gP gP)) (pty (ad am gP gP)) (pti (ad am gP gP)) (mkS [4] ++ mkS (bgL gx) ++ mkS (bgL gy)) (by rw [enc65]; rfl) w base_any ?_ ?_ ?_ ?_ ?_ (enc_pt gx gy gx_bw.inn gy_bw.inn)
  · intro W
    exact dec_1 ⟨#[2]⟩ (by decide) (by decide) (emp_no _ (by decide)) (by decide) W
  · intro W
    have h := add_pt gP gP g_on g_on W
    rw [pvP_g] at h
    exact h
  · intro W
    rw [two_x, ← tx_two]
    exact refText_any _ W
  · intro W
    have h := on_pt gx gy false gx_bw.inn gy_bw.inn W
    rw [on_g] at h
    exact h
  · intro W
    have h := mul_pt 2 inn_2 gP g_on W
    rw [mu_two gP g_on 1 (2 : Int).toNat rfl, p256.mu_one g_on, pvP_g, nv_2] at h
    exact h
/-- A point that came in is of the curve, or not. -/
theorem on_or (X Y : Int) (i : Bool) (hX : Inn X) (hY : Inn Y) : onB X Y i = false ∨ ∃ P, OnC am bm P ∧ pv X Y i = pvP P ∧ Pn X Y i P ∧ onB X Y i = true := by
  cases h : onB X Y i
  · exact .inl rfl
  · obtain ⟨P, p, o⟩ := (onB_iff X Y i hX hY).1 h
    refine .inr ⟨P, o, ?_, p, rfl⟩
    obtain ⟨rfl, rfl, rfl⟩ := p
    rfl
theorem ron_f {X Y : Int} {i : Bool} (hX : Inn X) (hY : Inn Y) (h : onB X Y i = false) (W : World) : Calls Tryz.prog 4 #[pv X Y i] W fun e w' => e = .returned (.bool false) ∧ Below W.heap.size W w' := by
  have k := ron_pt X Y i hX hY W
  rw [h] at k
  exact k
theorem ron_t (P : Cpt pN) (hP : OnC am bm P) (W : World) : Calls Tryz.prog 4 #[pvP P] W fun e w' => e = .returned (.bool true) ∧ Below W.heap.size W w' := by
  have k := ron_pt (ptx P) (pty P) (pti P) (cx_bw P).inn (cy_bw P).inn W
  rw [(onB_iff _ _ _ (cx_bw P).inn (cy_bw P).inn).2 ⟨P, ⟨rfl, rfl, rfl⟩, hP⟩] at k
  exact k
theorem pv_none : pvP none = .agg #[.int .u64 0, .int .u64 0, .int .u64 0, .int .u64 0, .int .u64 0, .int .u64 0, .int .u64 0, .int .u64 0, .bool true] := by
  have h : lim 0 0 = 0 ∧ lim 0 1 = 0 ∧ lim 0 2 = 0 ∧ lim 0 3 = 0 := by decide
  show pv 0 0 true = _
  simp only [pv, h.1, h.2.1, h.2.2.1, h.2.2.2]
end Go.Proofs.YtgekafmojedlkaaGreat
