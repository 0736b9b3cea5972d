/- Int as a row of bytes; . -/
import Derived.Test.YtajdfjpcobaioaaGreatDoorD7
set_option linter.all false
set_option maxRecDepth 100000
namespace Go.Proofs.YtajdfjpcobaioaaGreatDoor
open Go.RowKit Go.Sort
theorem trim_dz (l : List Int) (h : Bys l) : (⟨(Lib.trimLeftB (mkS l).data.toList 0).toArray⟩ : ByteArray) = mkS (dz l) := by
  apply ba_ext
  rw [mkS_list, mkS_list]
  show Lib.trimLeftB _ _ = _
  unfold Lib.trimLeftB
  induction l with
  | nil => rfl
  | cons x l ih =>
    have hx := h.hd
    by_cases c : x = 0
    · subst c
      have e : dz (0 :: l) = dz l := by simp [dz]
      rw [e, ← ih h.tl]
      rfl
    · rw [dz_id x l c, List.map_cons, List.dropWhile_cons_of_neg]
      rw [beq_iff_eq]
      intro hc
      have := congrArg UInt8.toNat hc
      rw [UInt8.toNat_ofNat'] at this
      simp at this
      omega
/-- Int's bytes. -/
def inL (N : Int) : List Int := iL (dz (bgL N))
theorem inL_bys (N : Int) : Bys (inL N) := iL_bys _ (dz_bys _ (bgL_bys N))
theorem dz_len (N : Int) : (dz (bgL N)).length ≤ 32 := by
  obtain ⟨k, _, h⟩ := dz_split (bgL N)
  rw [bgL_len] at h; omega
theorem intF_is (d : List Int) (h : Bys d) : intF (mkS d) = mkS (iL d) := by
  unfold intF iL
  rw [mkS_size, z1_is, mkS_app]
  cases d with
  | nil => rw [if_pos (.inl rfl), if_pos (.inl rfl)]; rfl
  | cons x d =>
    have hx := h.hd
    rw [mkS_bt (x :: d) 0 x rfl hx.1 hx.2]
    simp
    split <;> rfl
theorem int_any (N : Int) (h0 : 0 ≤ N) (h1 : N < top256) (w : World) : Calls Tryz.prog 14 #[nv N] w fun e w' => e = .returned (.string (mkS (inL N))) ∧ Below w.heap.size w w' := by
  have e := intF_is (dz (bgL N)) (dz_bys _ (bgL_bys N))
  unfold inL
  rw [← e]
  refine int_core N (mkS (bgL N)) _ (by rw [mkS_size]; exact dz_len N) (fun W => big_any N h0 h1 W) (fun W => ?_) w
  have := sh_strings_TrimLeft_one (mkS (bgL N)) 0 (by decide) W
  rw [trim_dz _ (bgL_bys N)] at this
  exact this
end Go.Proofs.YtajdfjpcobaioaaGreatDoor
