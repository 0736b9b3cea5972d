/- Texts joined: D14, D21, R1. -/
import Derived.Test.YtjdpeedghpblgaaGreatDoorJ9
import Derived.Test.YtjdpeedghpblgaaGreatDoorJ2
/- Int as a row of bytes; . -/
set_option linter.all false
set_option maxRecDepth 100000
namespace Go.Proofs.YtjdpeedghpblgaaGreatDoor
open Go.RowKit Go.Sort
theorem trim_dz (l : List Int) (h : Bys l) : (⟨(Lib.trimLeftB (mkS l).data.toList 0).toArray⟩ : ByteArray) = mkS (dz l) := by
  apply ba_ext
  rw [mkS_list, mkS_list]
  show Lib.trimLeftB _ _ = _
  unfold Lib.trimLeftB
  induction l with
  | nil => rfl
  | cons x l ih =>
    have hx := h.hd
    by_cases c : x = 0
    · subst c
      have e : dz (0 :: l) = dz l := by simp [dz]
      rw [e, ← ih h.tl]
      rfl
    · rw [dz_id x l c, List.map_cons, List.dropWhile_cons_of_neg]
      rw [beq_iff_eq]
      intro hc
      have := congrArg UInt8.toNat hc
      rw [UInt8.toNat_ofNat'] at this
      simp at this
      omega
/-- Int's bytes. -/
def inL (N : Int) : List Int := iL (dz (bgL N))
theorem inL_bys (N : Int) : Bys (inL N) := iL_bys _ (dz_bys _ (bgL_bys N))
theorem dz_len (N : Int) : (dz (bgL N)).length ≤ 32 := by
  obtain ⟨k, _, h⟩ := dz_split (bgL N)
  rw [bgL_len] at h; omega
theorem intF_is (d : List Int) (h : Bys d) : intF (mkS d) = mkS (iL d) := by
  unfold intF iL
  rw [mkS_size, z1_is, mkS_app]
  cases d with
  | nil => rw [if_pos (.inl rfl), if_pos (.inl rfl)]; rfl
  | cons x d =>
    have hx := h.hd
    rw [mkS_bt (x :: d) 0 x rfl hx.1 hx.2]
    simp
    split <;> rfl
theorem int_any (N : Int) (h0 : 0 ≤ N) (h1 : N < top256) (w : World) : Calls Tryz.prog 105 #[nv N] w fun e w' => e = .returned (.string (mkS (inL N))) ∧ Below w.heap.size w w' := by
  have e := intF_is (dz (bgL N)) (dz_bys _ (bgL_bys N))
  unfold inL
  rw [← e]
  refine int_core N (mkS (bgL N)) _ (by rw [mkS_size]; exact dz_len N) (fun W => big_any N h0 h1 W) (fun W => ?_) w
  have := sh_strings_TrimLeft_one (mkS (bgL N)) 0 (by decide) W
  rw [trim_dz _ (bgL_bys N)] at this
  exact this
end Go.Proofs.YtjdpeedghpblgaaGreatDoor
/- What ToInt tells. -/
set_option linter.all false
set_option maxRecDepth 100000
namespace Go.Proofs.YtjdpeedghpblgaaGreatDoor
open Go.RowKit Go.Sort
theorem trim_cut (s : ByteArray) : (⟨(Lib.trimPrefix s.data.toList [0]).toArray⟩ : ByteArray) = mkS (cut0 (sL s)) := by
  apply ba_ext
  rw [mkS_list]
  show Lib.trimPrefix s.data.toList [0] = _
  unfold Lib.trimPrefix Lib.hasPrefix cut0 sL
  have id : ∀ l : List UInt8, (l.map (fun b : UInt8 => (b.toNat : Int))).map (fun n => UInt8.ofNat n.toNat) = l := fun l => by
    rw [List.map_map]
    conv => rhs; rw [← List.map_id l]
    apply List.map_congr_left
    intro x _
    simp
  cases h : s.data.toList with
  | nil => rfl
  | cons x l =>
    simp only [List.map_cons, List.headD_cons, List.tail_cons]
    by_cases c : x = 0
    · subst c
      rw [if_pos (by rfl), if_pos (by rfl), id l]; rfl
    · have hx : (x.toNat : Int) ≠ 0 := by
        intro hc
        exact c (by apply UInt8.toNat_inj.1; show x.toNat = 0; omega)
      rw [if_neg (by simp [List.isPrefixOf]; exact fun h => c h.symm), if_neg hx]
      have := id (x :: l)
      simpa using this.symm
theorem rep0 (z : Nat) : (⟨(Lib.repeatL [0] z).toArray⟩ : ByteArray) = mkS (List.replicate z 0) := by
  apply ba_ext
  rw [mkS_list]
  induction z with
  | zero => rfl
  | succ z ih => rw [List.replicate_succ, List.map_cons, ← ih]; rfl
theorem cut0_bys (l : List Int) (h : Bys l) : Bys (cut0 l) := by
  unfold cut0
  split
  · intro x hx; exact h x (List.mem_of_mem_tail hx)
  · exact h
theorem tiOk_is (s : ByteArray) (hs : 0 < s.size) : tiOk s ↔ ¬ (128 ≤ (sL s).headD 0 ∨ (1 < (sL s).length ∧ (sL s).headD 0 = 0 ∧ (sL s).tail.headD 0 < 128)) := by
  have b0 : (sL s).headD 0 = bt s 0 := by rw [bt_sL]; cases sL s <;> rfl
  have b1 : (sL s).tail.headD 0 = bt s 1 := by
    rw [bt_sL]
    cases sL s with
    | nil => rfl
    | cons a l => cases l <;> rfl
  rw [b0, b1, sL_len]
  unfold tiOk
  have := bt_bd s 0
  omega
theorem toInt_no (s : ByteArray) (hm : s.size ≤ maxLen) (h : tiE (sL s) ≠ 0) (w : World) : Calls Tryz.prog 88 #[.string s] w fun e w' => e = .returned (.tuple #[nz, .int .i64 (tiE (sL s))]) ∧ Below w.heap.size w w' := by
  by_cases h0 : s.size = 0
  · have e : s = ⟨#[]⟩ := by
      apply ba_ext
      have := len_list s
      rw [h0] at this
      rw [List.eq_nil_of_length_eq_zero this]
    subst e
    exact ti_0 w
  have hs : 0 < s.size := by omega
  have hn : sL s ≠ [] := fun c => by have := sL_len s; rw [c] at this; simp at this; omega
  by_cases h1 : tiOk s
  · have h2 := (tiOk_is s hs).1 h1
    have h3 : 32 < (cut0 (sL s)).length := by
      unfold tiE at h
      rw [if_neg hn, if_neg h2] at h
      split at h
      · assumption
      · exact absurd rfl h
    have e : tiE (sL s) = 13 := by unfold tiE; rw [if_neg hn, if_neg h2, if_pos h3]
    rw [e]
    refine ti_n s (mkS (cut0 (sL s))) hs hm h1 (by rw [mkS_size]; exact h3) (fun W => ?_) w
    have := sh_strings_TrimPrefix s ⟨#[0]⟩ W
    rw [show (⟨#[0]⟩ : ByteArray).data.toList = [0] from rfl, trim_cut] at this
    exact this
  · have h2 : ¬ ¬ _ := fun c => h1 ((tiOk_is s hs).2 c)
    have e : tiE (sL s) = 10 := by unfold tiE; rw [if_neg hn, if_pos (Classical.not_not.1 h2)]
    rw [e]
    exact ti_f s hs hm h1 w
theorem toInt_yes (s : ByteArray) (hm : s.size ≤ maxLen) (h : tiE (sL s) = 0) (w : World) : Calls Tryz.prog 88 #[.string s] w fun e w' => e = .returned (.tuple #[nv (beV (cut0 (sL s))), .int .i64 0]) ∧ Below w.heap.size w w' := by
  have hn : sL s ≠ [] := fun c => by rw [c] at h; exact absurd h (by decide)
  have hs : 0 < s.size := by
    rcases Nat.eq_zero_or_pos s.size with c | c
    · exact absurd (List.eq_nil_of_length_eq_zero (by rw [sL_len]; exact c)) hn
    · exact c
  have h2 : ¬ (128 ≤ (sL s).headD 0 ∨ (1 < (sL s).length ∧ (sL s).headD 0 = 0 ∧ (sL s).tail.headD 0 < 128)) := fun c => by
    unfold tiE at h; rw [if_neg hn, if_pos c] at h; exact absurd h (by decide)
  have h3 : (cut0 (sL s)).length ≤ 32 := by
    unfold tiE at h
    rw [if_neg hn, if_neg h2] at h
    split at h
    · exact absurd h (by decide)
    · omega
  have hb := cut0_bys (sL s) (sL_bys s)
  generalize hc : cut0 (sL s) = d at *
  have zb : (mkS d).size = d.length := mkS_size d
  have bz : Bys (List.replicate (32 - d.length) 0 ++ d) := by
    refine Bys.app (fun x hx => ?_) hb
    have := List.eq_of_mem_replicate hx
    omega
  have lz : (List.replicate (32 - d.length) 0 ++ d).length = 32 := by simp; omega
  have ez : mkS (List.replicate (32 - d.length) 0) ++ mkS d = mkS (List.replicate (32 - d.length) 0 ++ d) := mkS_app _ _
  have pv : pn 8 (bt (mkS (List.replicate (32 - d.length) 0 ++ d))) 32 = beV d := by
    have := pn_beV (bt (mkS (List.replicate (32 - d.length) 0 ++ d))) (List.replicate (32 - d.length) 0 ++ d) (fun i hi => by rw [bt_sL, sL_mkS _ bz])
    rw [lz, beV_zeros] at this
    exact this
  have := ti_y s (mkS d) (mkS (List.replicate (32 - d.length) 0)) (lim (beV d) 0) (lim (beV d) 1) (lim (beV d) 2) (lim (beV d) 3) hs hm ((tiOk_is s hs).2 h2) (by rw [zb]; exact h3) (32 - d.length) (by rw [zb]) (by rw [mkS_size]; simp) (fun W => by
      have := sh_strings_TrimPrefix s ⟨#[0]⟩ W
      rw [show (⟨#[0]⟩ : ByteArray).data.toList = [0] from rfl, trim_cut, hc] at this
      exact this) (fun W => by
      rw [zb, show (32 : Int) - (d.length : Int) = ((32 - d.length : Nat) : Int) by omega]
      refine (sh_strings_Repeat ⟨#[0]⟩ (32 - d.length) W (by omega) (by have : (⟨#[0]⟩ : ByteArray).size = 1 := rfl; rw [this]; omega)).mono ?_
      rintro e w' ⟨rfl, hb⟩
      exact ⟨by rw [show (⟨#[0]⟩ : ByteArray).data.toList = [0] from rfl, rep0], hb⟩) (fun W => by
      rw [ez]
      have := fromBig_yes (mkS (List.replicate (32 - d.length) 0 ++ d)) (by rw [mkS_size]; exact lz) W
      rw [pv] at this
      exact this) w
  exact this
/- There and back. -/
theorem int_back (N : Int) (h0 : 0 ≤ N) (h1 : N < top256) : tiE (sL (mkS (inL N))) = 0 ∧ beV (cut0 (sL (mkS (inL N)))) = N := by
  have b := ti_iL (dz (bgL N)) (dz_bys _ (bgL_bys N)) (dz_len N) (fun x r h => dz_head _ x r h)
  rw [sL_mkS _ (inL_bys N)]
  unfold inL
  refine ⟨b.1, ?_⟩
  rw [b.2, dz_val, bgL_val N h0 h1]
theorem back_int (s : ByteArray) (h : tiE (sL s) = 0) : 0 ≤ beV (cut0 (sL s)) ∧ beV (cut0 (sL s)) < top256 ∧ mkS (inL (beV (cut0 (sL s)))) = s := by
  obtain ⟨h32, hi⟩ := iL_ti (sL s) (sL_bys s) h
  have hb := cut0_bys (sL s) (sL_bys s)
  have bz : Bys (List.replicate (32 - (cut0 (sL s)).length) 0 ++ cut0 (sL s)) := by
    refine Bys.app (fun x hx => ?_) hb
    have := List.eq_of_mem_replicate hx
    omega
  have lz : (List.replicate (32 - (cut0 (sL s)).length) 0 ++ cut0 (sL s)).length = 32 := by simp; omega
  have := bgL_beV _ bz lz
  rw [beV_zeros] at this
  refine ⟨this.1, this.2.1, ?_⟩
  unfold inL
  rw [this.2.2, dz_zeros, hi, mkS_sL]
end Go.Proofs.YtjdpeedghpblgaaGreatDoor
/- The reference's Int and ToInt. -/
set_option linter.all false
set_option maxRecDepth 100000
namespace Go.Proofs.YtjdpeedghpblgaaGreatDoor
open Go.RowKit Go.Sort
def lnOf : Value → Nat
  | .string s => s.size
  | _ => 0
theorem mk_cut (x : Int) (l : List Int) : (mkS (x :: l)).extract 1 (mkS (x :: l)).size = mkS l := by
  apply ba_ext
  rw [ext_list, mkS_list, mkS_list, List.map_cons, List.drop_succ_cons, List.drop_zero]
  apply List.take_of_length_le
  rw [mkS_size]; simp
set_option maxHeartbeats 1000000 in
theorem rInt_core (N : Int) (d : List Int) (hd : d ≠ []) (hb : Bys d) (h32 : d.length ≤ 32) (F : ByteArray) (hF : Hid (∀ l : List Int, Bys l → l ≠ [] → dz l = dz d → (l.length = 1 ∨ l.headD 0 ≠ 0) → (if 127 < l.headD 0 then z1 ++ mkS l else mkS l) = F))
    (C39 : ∀ W, Calls Tryz.prog 112 #[nv N] W fun e w' => e = .returned (.string (mkS d)) ∧ Below W.heap.size W w') (w : World) : Calls Tryz.prog 90 #[nv N] w fun e w' => e = .returned (.string F) ∧ Below w.heap.size w w' := by
  go_enter Tryz.func90, Tryz.ntmps90
  go_wp2_with (go_at_call 112; refine (C39 _).mono ?_; rintro e w1 ⟨rfl, hb1⟩)
  have hB : Below w.heap.size w w1 := Bel.call (by go_grown) hb1
  clear hb1 C39
  go_loop [3] (fun s => ∃ l : List Int, s = .string (mkS l) ∧ Bys l ∧ l ≠ [] ∧ dz l = dz d ∧ l.length ≤ 32) (fun s => lnOf s)
  case atStart => exact ⟨d, rfl, hb, hd, rfl, h32⟩
  case round =>
    obtain ⟨l, rfl, hlb, hln, hdz, hl32⟩ := hrel
    cases l with
    | nil => exact absurd rfl hln
    | cons x l =>
      have hx := hlb.hd
      have zs : (mkS (x :: l)).size = l.length + 1 := by rw [mkS_size]; rfl
      have I : ∀ W, (Instr.index 9 (.string (mkS (x :: l))) (.int .i64 0)).run Tryz.prog W = .ok (.int .u8 x) W := fun W => by
        have := idx0 (mkS (x :: l)) (by omega) W
        rw [mkS_bt (x :: l) 0 x rfl hx.1 hx.2] at this
        exact this
      have hm : (mkS (x :: l)).size ≤ maxLen := by unfold maxLen; simp at hl32; omega
      have K := cut1 (mkS (x :: l)) (by omega) hm
      rw [mk_cut] at K
      have zi : ((mkS (x :: l)).size : Int) = (l.length : Int) + 1 := by omega
      have HF := hF.out (x :: l) hlb hln hdz
      have AD := add_s ⟨#[0]⟩ (mkS (x :: l)) (by have : (⟨#[0]⟩ : ByteArray).size = 1 := rfl; simp at hl32; omega)
      by_cases c : 0 < l.length ∧ x = 0
      · obtain ⟨c1, rfl⟩ := c
        have c1' : (1 : Int) < (l.length : Int) + 1 := by omega
        have HD : Hid (dz l = dz d) := by
          show _ = _
          rw [← hdz]; simp [dz]
        have HZ : Hid ((mkS l).size < (mkS (0 :: l)).size) := by show _ < _; rw [mkS_size, zs]; omega
        have HY : Hid (Bys l ∧ l ≠ [] ∧ l.length ≤ 32) := ⟨hlb.tl, (fun h => by rw [h] at c1; simp at c1), by simp at hl32; omega⟩
        clear HF AD hdz hlb hln hl32
        generalize mkS (0 :: l) = S at *
        go_wp2_with fail
        exact ⟨⟨l, rfl, HY.out.1, HY.out.2.1, HD.out, HY.out.2.2⟩, HZ.out⟩
      · have HE := HF (by simp only [List.length_cons, List.headD_cons]; omega)
        simp only [List.headD_cons] at HE
        clear HF hdz
        have HR : Hid ((if 127 < x then z1 ++ mkS (x :: l) else mkS (x :: l)) = F) := HE
        unfold z1 at HR
        clear HE
        generalize mkS (x :: l) = S at *
        by_cases c1 : 0 < l.length
        · have cx : ¬ x = 0 := fun h => c ⟨c1, h⟩
          have cx' : (x == 0) = false := by simp [cx]
          have c1' : (1 : Int) < (l.length : Int) + 1 := by omega
          by_cases c2 : 127 < x
          · rw [if_pos c2] at HR
            go_wp2_with fail
            go_ret
            exact ⟨by rw [← HR.out]; rfl, hB⟩
          · rw [if_neg c2] at HR
            have c2' : decide (127 < x) = false := decide_eq_false c2
            go_wp2_with fail
            go_ret
            exact ⟨by rw [← HR.out]; rfl, hB⟩
        · have c1' : ¬ (1 : Int) < (l.length : Int) + 1 := by omega
          have c1'' : decide ((1 : Int) < (l.length : Int) + 1) = false := decide_eq_false c1'
          by_cases c2 : 127 < x
          · rw [if_pos c2] at HR
            go_wp2_with fail
            go_ret
            exact ⟨by rw [← HR.out]; rfl, hB⟩
          · rw [if_neg c2] at HR
            have c2' : decide (127 < x) = false := decide_eq_false c2
            go_wp2_with fail
            go_ret
            exact ⟨by rw [← HR.out]; rfl, hB⟩
theorem rInt_any (N : Int) (w : World) : Calls Tryz.prog 90 #[nv N] w fun e w' => e = .returned (.string (mkS (inL N))) ∧ Below w.heap.size w w' := by
  refine rInt_core N (bgL N) (fun h => by have := bgL_len N; rw [h] at this; simp at this) (bgL_bys N) (by rw [bgL_len]; omega) _ (fun l hl hn hdz h => ?_) (fun W => refBig_any N W) w
  unfold inL
  rw [← hdz]
  cases l with
  | nil => exact absurd rfl hn
  | cons x l =>
    have hx := hl.hd
    simp only [List.headD_cons, List.length_cons] at h
    by_cases c : x = 0
    · subst c
      have : l = [] := by
        rcases h with h | h
        · exact List.eq_nil_of_length_eq_zero (by omega)
        · exact absurd rfl h
      subst this
      rfl
    · rw [dz_id x l c]
      unfold iL
      by_cases c2 : 127 < x
      · rw [if_pos (show 127 < (x :: l).headD 0 from c2), if_pos (by simp; omega), z1_is, mkS_app]; rfl
      · rw [if_neg (show ¬ 127 < (x :: l).headD 0 from c2), if_neg (by simp; omega)]
end Go.Proofs.YtjdpeedghpblgaaGreatDoor
