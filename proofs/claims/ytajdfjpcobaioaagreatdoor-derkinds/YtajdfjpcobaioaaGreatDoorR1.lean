/- The reference's Int and ToInt. -/
import Derived.Test.YtajdfjpcobaioaaGreatDoorD21
import Derived.Test.YtajdfjpcobaioaaGreatDoorN4
set_option linter.all false
set_option maxRecDepth 100000
namespace Go.Proofs.YtajdfjpcobaioaaGreatDoor
open Go.RowKit Go.Sort
def lnOf : Value → Nat
  | .string s => s.size
  | _ => 0
theorem mk_cut (x : Int) (l : List Int) : (mkS (x :: l)).extract 1 (mkS (x :: l)).size = mkS l := by
  apply ba_ext
  rw [ext_list, mkS_list, mkS_list, List.map_cons, List.drop_succ_cons, List.drop_zero]
  apply List.take_of_length_le
  rw [mkS_size]; simp
set_option maxHeartbeats 1000000 in
theorem rInt_core (N : Int) (d : List Int) (hd : d ≠ []) (hb : Bys d) (h32 : d.length ≤ 32) (F : ByteArray) (hF : Hid (∀ l : List Int, Bys l → l ≠ [] → dz l = dz d → (l.length = 1 ∨ l.headD 0 ≠ 0) → (if 127 < l.headD 0 then z1 ++ mkS l else mkS l) = F))
    (C39 : ∀ W, Calls Tryz.prog 39 #[nv N] W fun e w' => e = .returned (.string (mkS d)) ∧ Below W.heap.size W w') (w : World) : Calls Tryz.prog 15 #[nv N] w fun e w' => e = .returned (.string F) ∧ Below w.heap.size w w' := by
  go_enter Tryz.func15, Tryz.ntmps15
  go_wp2_with (go_at_call 39; refine (C39 _).mono ?_; rintro e w1 ⟨rfl, hb1⟩)
  have hB : Below w.heap.size w w1 := Bel.call (by go_grown) hb1
  clear hb1 C39
  go_loop [3] (fun s => ∃ l : List Int, s = .string (mkS l) ∧ Bys l ∧ l ≠ [] ∧ dz l = dz d ∧ l.length ≤ 32) (fun s => lnOf s)
  case atStart => exact ⟨d, rfl, hb, hd, rfl, h32⟩
  case round =>
    obtain ⟨l, rfl, hlb, hln, hdz, hl32⟩ := hrel
    cases l with
    | nil => exact absurd rfl hln
    | cons x l =>
      have hx := hlb.hd
      have zs : (mkS (x :: l)).size = l.length + 1 := by rw [mkS_size]; rfl
      have I : ∀ W, (Instr.index 9 (.string (mkS (x :: l))) (.int .i64 0)).run Tryz.prog W = .ok (.int .u8 x) W := fun W => by
        have := idx0 (mkS (x :: l)) (by omega) W
        rw [mkS_bt (x :: l) 0 x rfl hx.1 hx.2] at this
        exact this
      have hm : (mkS (x :: l)).size ≤ maxLen := by unfold maxLen; simp at hl32; omega
      have K := cut1 (mkS (x :: l)) (by omega) hm
      rw [mk_cut] at K
      have zi : ((mkS (x :: l)).size : Int) = (l.length : Int) + 1 := by omega
      have HF := hF.out (x :: l) hlb hln hdz
      have AD := add_s ⟨#[0]⟩ (mkS (x :: l)) (by have : (⟨#[0]⟩ : ByteArray).size = 1 := rfl; simp at hl32; omega)
      by_cases c : 0 < l.length ∧ x = 0
      · obtain ⟨c1, rfl⟩ := c
        have c1' : (1 : Int) < (l.length : Int) + 1 := by omega
        have HD : Hid (dz l = dz d) := by
          show _ = _
          rw [← hdz]; simp [dz]
        have HZ : Hid ((mkS l).size < (mkS (0 :: l)).size) := by show _ < _; rw [mkS_size, zs]; omega
        have HY : Hid (Bys l ∧ l ≠ [] ∧ l.length ≤ 32) := ⟨hlb.tl, (fun h => by rw [h] at c1; simp at c1), by simp at hl32; omega⟩
        clear HF AD hdz hlb hln hl32
        generalize mkS (0 :: l) = S at *
        go_wp2_with fail
        exact ⟨⟨l, rfl, HY.out.1, HY.out.2.1, HD.out, HY.out.2.2⟩, HZ.out⟩
      · have HE := HF (by simp only [List.length_cons, List.headD_cons]; omega)
        simp only [List.headD_cons] at HE
        clear HF hdz
        have HR : Hid ((if 127 < x then z1 ++ mkS (x :: l) else mkS (x :: l)) = F) := HE
        unfold z1 at HR
        clear HE
        generalize mkS (x :: l) = S at *
        by_cases c1 : 0 < l.length
        · have cx : ¬ x = 0 := fun h => c ⟨c1, h⟩
          have cx' : (x == 0) = false := by simp [cx]
          have c1' : (1 : Int) < (l.length : Int) + 1 := by omega
          by_cases c2 : 127 < x
          · rw [if_pos c2] at HR
            go_wp2_with fail
            go_ret
            exact ⟨by rw [← HR.out]; rfl, hB⟩
          · rw [if_neg c2] at HR
            have c2' : decide (127 < x) = false := decide_eq_false c2
            go_wp2_with fail
            go_ret
            exact ⟨by rw [← HR.out]; rfl, hB⟩
        · have c1' : ¬ (1 : Int) < (l.length : Int) + 1 := by omega
          have c1'' : decide ((1 : Int) < (l.length : Int) + 1) = false := decide_eq_false c1'
          by_cases c2 : 127 < x
          · rw [if_pos c2] at HR
            go_wp2_with fail
            go_ret
            exact ⟨by rw [← HR.out]; rfl, hB⟩
          · rw [if_neg c2] at HR
            have c2' : decide (127 < x) = false := decide_eq_false c2
            go_wp2_with fail
            go_ret
            exact ⟨by rw [← HR.out]; rfl, hB⟩
theorem rInt_any (N : Int) (w : World) : Calls Tryz.prog 15 #[nv N] w fun e w' => e = .returned (.string (mkS (inL N))) ∧ Below w.heap.size w w' := by
  refine rInt_core N (bgL N) (fun h => by have := bgL_len N; rw [h] at this; simp at this) (bgL_bys N) (by rw [bgL_len]; omega) _ (fun l hl hn hdz h => ?_) (fun W => refBig_any N W) w
  unfold inL
  rw [← hdz]
  cases l with
  | nil => exact absurd rfl hn
  | cons x l =>
    have hx := hl.hd
    simp only [List.headD_cons, List.length_cons] at h
    by_cases c : x = 0
    · subst c
      have : l = [] := by
        rcases h with h | h
        · exact List.eq_nil_of_length_eq_zero (by omega)
        · exact absurd rfl h
      subst this
      rfl
    · rw [dz_id x l c]
      unfold iL
      by_cases c2 : 127 < x
      · rw [if_pos (show 127 < (x :: l).headD 0 from c2), if_pos (by simp; omega), z1_is, mkS_app]; rfl
      · rw [if_neg (show ¬ 127 < (x :: l).headD 0 from c2), if_neg (by simp; omega)]
end Go.Proofs.YtajdfjpcobaioaaGreatDoor
