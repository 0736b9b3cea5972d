/- The table of what bytes become. -/
import Derived.Test.YtjaljnfijhfkcaaGreatDoorJ6
import Derived.Test.YtjaljnfijhfkcaaGreatDoorJ2
set_option linter.all false
set_option maxRecDepth 100000
namespace Go.Proofs.YtjaljnfijhfkcaaGreatDoor
open Go.RowKit Go.Sort Lin
theorem Tryz.info163 : (Tryz.prog.info? 163).map (·.size) = some 256 := by kernel_rfl
theorem Tryz.info209 : (Tryz.prog.info? 209).map (·.size) = some 255 := by kernel_rfl
theorem zeros8 (n j : Nat) (hj : j < n) : (List.replicate n (Value.int .u8 0)).toArray[j]? = some (.int .u8 0) := by
  rw [List.getElem?_toArray, List.getElem?_replicate, if_pos hj]
/-- A table as cells. -/
def tbL (f : By → By) : List Value := (List.range 256).map fun j => .int .u8 ((f (Fin.ofNat 256 j)).val : Int)
theorem tbL_len (f : By → By) : (tbL f).length = 256 := by simp [tbL]
theorem tbL_at (f : By → By) (j : Nat) (hj : j < 256) : (tbL f)[j]? = some (.int .u8 ((f (Fin.ofNat 256 j)).val : Int)) := by simp [tbL, hj]
theorem tbL_by (f : By → By) (a : By) : (tbL f)[a.val]? = some (.int .u8 ((f a).val : Int)) := by
  rw [tbL_at f a.val a.2]
  congr
  exact Fin.ext (by simp [Nat.mod_eq_of_lt a.2])
theorem tbL_one (f : By → By) : ∀ v ∈ tbL f, v.oneCell' = true := by
  intro v hv
  simp only [tbL, List.mem_map] at hv
  obtain ⟨j, _, rfl⟩ := hv
  rfl
def bldL (v : Value) : List Value := v :: List.replicate 255 (.int .u8 0)
theorem bld_is (x : Int) : Tryz.zeroCells163.setIfInBounds 0 (Value.int .u8 x) = (bldL (.int .u8 x)).toArray := by kernel_rfl
theorem frozen_sets (w : World) (b : Nat) (a : Addr) : ∀ (vs : List Value) (o : Nat), (w.setCells b o vs).frozen? a = w.frozen? a := by
  intro vs
  induction vs generalizing w with
  | nil => intro o; rfl
  | cons v r ih => intro o; rw [World.setCells, ih, World.frozen?_setCell]
theorem cell_sets_other (w : World) (b b' j : Nat) (hne : b ≠ b') : ∀ (vs : List Value) (o : Nat), (w.setCells b o vs).cell? ⟨b', j, none⟩ = w.cell? ⟨b', j, none⟩ := by
  intro vs
  induction vs generalizing w with
  | nil => intro o; rfl
  | cons v r ih => intro o; rw [World.setCells, ih, World.cell?_setCell_other _ _ _ _ (by intro hh; injection hh with h1 _; exact hne h1)]
theorem size_sets (w : World) (b : Nat) : ∀ (vs : List Value) (o : Nat), (w.setCells b o vs).heap.size = w.heap.size := by
  intro vs
  induction vs generalizing w with
  | nil => intro o; rfl
  | cons v r ih => intro o; rw [World.setCells, ih, size_set]
theorem Arr.sets {w : World} {b n : Nat} {f : Nat → Value} (h : Arr w b n f) (L : List Value) (hl : L.length = n) (g : Nat → Value) (hg : ∀ j, j < n → L[j]? = some (g j)) : Arr (w.setCells b 0 L) b n g :=
  Arr.of_range (World.rangeAt_setCells_same w _ 0 _ (by rw [hl]; exact h.there)) hg (fun j hj => by rw [frozen_sets]; exact h.z j hj)
theorem Arr.setso {w : World} {b b' n : Nat} {f : Nat → Value} (h : Arr w b n f) (hne : b' ≠ b) (L : List Value) (o : Nat) : Arr (w.setCells b' o L) b n f := fun j hj =>
  ⟨by rw [cell_sets_other w b' b j hne]; exact h.c j hj, by rw [frozen_sets]; exact h.z j hj⟩
theorem idx83 (L : List Value) (k : Nat) (v : Int) (hk : k < 255) (hv : L[k]? = some (.int .u8 v)) (W : World) : (Instr.index 209 (.agg L.toArray) (.int .i64 (k : Int))).run Tryz.prog W = .ok (.int .u8 v) W := by
  have h0 : (0 : Int) ≤ (k : Int) ∧ (k : Int) < ((255 : Nat) : Int) := by omega
  have hs : (Go.sizeOf 5).run Tryz.prog W = .ok 1 W := by kernel_rfl
  have hv' : L.toArray[k]? = some (.int .u8 v) := by simpa using hv
  simp only [Instr.index, asIntOf, Sem.run_bind, Sem.run_pure, Result.andThen_ok, run_underlying Tryz.underlying209]
  rw [Sem.run_ite, if_pos h0]
  simp only [Sem.run_bind, hs, Result.andThen_ok, Int.toNat_natCast, Nat.mul_one]
  have ha : (isAgg 5).run Tryz.prog W = .ok false W := by kernel_rfl
  simp [part, Sem.run_bind, ha, hv']
theorem idx46 (L : List Value) (k : Nat) (v : Int) (hk : k < 256) (hv : L[k]? = some (.int .u8 v)) (W : World) : (Instr.index 163 (.agg L.toArray) (.int .u8 (k : Int))).run Tryz.prog W = .ok (.int .u8 v) W := by
  have h0 : (0 : Int) ≤ (k : Int) ∧ (k : Int) < ((256 : Nat) : Int) := by omega
  have hs : (Go.sizeOf 5).run Tryz.prog W = .ok 1 W := by kernel_rfl
  have hv' : L.toArray[k]? = some (.int .u8 v) := by simpa using hv
  simp only [Instr.index, asIntOf, Sem.run_bind, Sem.run_pure, Result.andThen_ok, run_underlying Tryz.underlying163]
  rw [Sem.run_ite, if_pos h0]
  simp only [Sem.run_bind, hs, Result.andThen_ok, Int.toNat_natCast, Nat.mul_one]
  have ha : (isAgg 5).run Tryz.prog W = .ok false W := by kernel_rfl
  simp [part, Sem.run_bind, ha, hv']
/-- The table's cells, as far as it is made. -/
def tbV (k : Nat) (j : Nat) : Value := .int .u8 ((tbF k (Fin.ofNat 256 j)).val : Int)
theorem tbV_0 (j : Nat) (hj : j < 256) : (bldL (.int .u8 ((sb 0).val : Int)))[j]? = some (tbV 0 j) := by
  unfold tbV
  rw [tbF_0]
  cases j with
  | zero => rfl
  | succ j =>
    have hn : ¬ (Fin.ofNat 256 (j + 1) : By) = 0 := by
      intro h
      have := congrArg Fin.val h
      simp [Nat.mod_eq_of_lt hj] at this
    rw [if_neg hn]
    show (List.replicate 255 (Value.int .u8 0))[j]? = _
    rw [List.getElem?_replicate, if_pos (by omega)]
    rfl
theorem tbV_next (k : Nat) (hk : k < 255) (j : Nat) (hj : j < 256) : (if j = (pw k).val then Value.int .u8 ((spF (pw ((255 - k) % 255))).val : Int) else tbV k j) = tbV (k + 1) j := by
  unfold tbV
  rw [tbF_next k hk]
  by_cases e : j = (pw k).val
  · rw [if_pos e, if_pos (Fin.ext (by simp [Nat.mod_eq_of_lt hj, e]))]
  · rw [if_neg e, if_neg (by intro h; apply e; rw [← h]; simp [Nat.mod_eq_of_lt hj])]
def pwV (k : Nat) (j : Nat) : Value := .int .u8 (if j < k then ((pw j).val : Int) else 0)
set_option maxHeartbeats 4000000 in
theorem becoming_core (L PL : List Value) (hPl : PL.length = 255) (hPa : ∀ j, j < 255 → PL[j]? = some (pwV 255 j)) (hlen : L.length = 256) (hat : ∀ j, j < 256 → L[j]? = some (tbV 255 j)) (hone : ∀ v ∈ L, v.oneCell' = true) (w : World) :
    Calls Tryz.prog 135 #[] w fun e w' => e = .returned (.agg L.toArray) ∧ Below w.heap.size w w' := by
  go_enter Tryz.func135, Tryz.ntmps135
  go_wp2_with fail
  go_loopw [2, 3] (fun i p wr => ∃ k : Nat, k ≤ 255 ∧ i = .int .i64 k ∧ p = .int .u8 ((pw k).val : Int) ∧ Below w.heap.size w wr ∧ w.heap.size + 1 < wr.heap.size ∧
      Arr wr w.heap.size 256 (fun _ => .int .u8 0) ∧ Arr wr (w.heap.size + 1) 255 (pwV k))
    (fun i _ _ => 255 - (intOf i).toNat)
  case atStart =>
    refine ⟨0, by omega, rfl, rfl, by go_grown, by go_size, ?_, ?_⟩
    · exact (Arr.new _ _ _ _ (by simp) _ 256 (zeros8 256)).alloc (by go_size) _
    · refine Arr.new _ _ _ _ (by simp) _ 255 ?_
      intro j hj
      rw [pwV, if_neg (by omega)]
      exact zeros8 255 j hj
  case round =>
    obtain ⟨k, hk, rfl, rfl, hB, hz, A0, A1⟩ := hrel
    by_cases hlt : k < 255
    · have k0 : (0 : Int) ≤ (k : Int) := by omega
      have k8 : (k : Int) < 255 := by omega
      have pn := pw_next ⟨k, hlt⟩
      have T := fun W => times_any (pw k) 3 W
      rw [← pn] at T
      rw [show ((3 : By).val : Int) = 3 from rfl] at T
      simp only at T
      have z2 := A1.z k (by omega)
      have c2 := A1.c k (by omega)
      have A1n : Hid (∀ j, j < 255 → (if j = k then Value.int .u8 ((pw k).val : Int) else pwV k j) = pwV (k + 1) j) := fun j hj => by
        unfold pwV
        by_cases e : j = k
        · subst e; simp
        · rw [if_neg e]
          by_cases e2 : j < k
          · rw [if_pos e2, if_pos (by omega)]
          · rw [if_neg e2, if_neg (by omega)]
      clear pn
      generalize pw k = p at *
      go_wp2_with (go_at_call 136; refine (T _).mono ?_; rintro e w1 ⟨rfl, rfl⟩)
      refine ⟨⟨k + 1, by omega, by go_num, rfl, Bel.st hB (by omega) _, by rw [size_set]; omega, A0.other (by omega) _, (A1.set k hlt _).congr A1n.out⟩, by simp [intOf]; omega⟩
    · have e : k = 255 := by omega
      rw [show ((k : Nat) : Int) = 255 by omega]
      subst e
      have SP := fun W => spread_any 0 W
      rw [show ((0 : By).val : Int) = 0 from rfl, sp_0] at SP
      clear hk hlt
      have A0' : Arr (wr.alloc (.cells (List.replicate 256 (Value.int .u8 0)).toArray 163)) w.heap.size 256 (fun _ => .int .u8 0) := A0.al' _
      have A1' : Arr (wr.alloc (.cells (List.replicate 256 (Value.int .u8 0)).toArray 163)) (w.heap.size + 1) 255 (pwV 255) := A1.al' _
      have A2' : Arr (wr.alloc (.cells (List.replicate 256 (Value.int .u8 0)).toArray 163)) wr.heap.size 256 (fun _ => .int .u8 0) := Arr.new _ _ _ _ (by simp) _ 256 (zeros8 256)
      have hB' : Below w.heap.size w (wr.alloc (.cells (List.replicate 256 (Value.int .u8 0)).toArray 163)) := Bel.al hB _
      have hz' : wr.heap.size < (wr.alloc (.cells (List.replicate 256 (Value.int .u8 0)).toArray 163)).heap.size := by simp
      have HA : Hid _ := And.intro A0' (And.intro A1' (And.intro A2' (And.intro hB' hz')))
      clear A0' A1' A2' hB' hz' hB A0 A1
      go_upto_region 6 with (fail)
      refine wp_region_list ?_
      refine wpList_plain (by rfl) fun K1 hK1 => ?_
      have H1 : Hid _ := hK1
      clear hK1
      go_wp2_with fail
      refine (SP _).mono ?_
      rintro e w1 ⟨rfl, rfl⟩
      refine H1.out _ _ ?_
      clear H1 SP
      refine wpList_plain (by rfl) fun K1 hK1 => ?_
      have H1 : Hid _ := hK1
      clear hK1
      go_wp2_with fail
      refine H1.out _ _ ?_
      clear H1
      rw [show Tryz.zeroCells163.setIfInBounds 0 (Value.int .u8 ((sb 0).val : Int)) = (bldL (.int .u8 ((sb 0).val : Int))).toArray from bld_is _]
      refine wpList_plain (by rfl) fun K1 hK1 => ?_
      have H1 : Hid _ := hK1
      clear hK1
      go_wp2_with fail
      refine H1.out _ _ ?_
      clear H1
      obtain ⟨A0', A1', A2', hB', hz'⟩ := HA.out
      refine wpList_store_mid (by rfl) 163 (.tmp 4) (.tmp 17) (by rfl) _ _ (bldL (.int .u8 ((sb 0).val : Int))).toArray (by rfl) (by rfl) (by rw [List.size_toArray]; exact A2'.there) (by rw [List.size_toArray]; exact Tryz.info163) (all_oneCell_toArray (fun v hv => by
        rcases List.mem_cons.1 hv with rfl | hv
        · rfl
        · rw [List.eq_of_mem_replicate hv]; rfl)) ?_
      refine wpList_nil ?_
      have B0 := A0'.setso (b' := w1.heap.size) (by omega) (bldL (.int .u8 ((sb 0).val : Int))) 0
      have B1 := A1'.setso (b' := w1.heap.size) (by omega) (bldL (.int .u8 ((sb 0).val : Int))) 0
      have B2 := A2'.sets (bldL (.int .u8 ((sb 0).val : Int))) rfl (tbV 0) tbV_0
      have hB2 := below_setCells hB' (b := w1.heap.size) (by omega) (bldL (.int .u8 ((sb 0).val : Int))) 0
      have hz2 : w1.heap.size < ((w1.alloc (.cells (List.replicate 256 (Value.int .u8 0)).toArray 163)).setCells w1.heap.size 0 (bldL (.int .u8 ((sb 0).val : Int)))).heap.size := by rw [size_sets]; exact hz'
      change Arr ((w1.alloc (.cells Tryz.zeroCells163 163)).setCells w1.heap.size 0 _) _ _ _ at B0 B1 B2
      change Below _ _ ((w1.alloc (.cells Tryz.zeroCells163 163)).setCells w1.heap.size 0 _) at hB2
      change _ < ((w1.alloc (.cells Tryz.zeroCells163 163)).setCells w1.heap.size 0 _).heap.size at hz2
      clear A0' A1' A2' hB' hz' HA
      have eL : (bldL (.int .u8 ((sb 0).val : Int))).toArray.toList = bldL (.int .u8 ((sb 0).val : Int)) := rfl
      rw [eL]
      clear eL
      generalize (w1.alloc (.cells Tryz.zeroCells163 163)).setCells w1.heap.size 0 (bldL (.int .u8 ((sb 0).val : Int))) = w3 at B0 B1 B2 hB2 hz2 ⊢
      generalize w1.heap.size = t at B0 B1 B2 hB2 hz2 hz ⊢
      have RP := B1.range PL hPl hPa
      have HP : Hid _ := RP
      clear RP
      have HI : Hid ((Tryz.prog.info? 209).map (·.size) = some PL.length) := by rw [hPl]; exact Tryz.info209
      go_upto_region 7 with (fail)
      refine wp_region_list ?_
      refine wpList_load_mid (by rfl) 209 (.tmp 1) (by rfl) _ _ (by rfl) PL _ HP.out Tryz.underlying209 rfl HI.out ?_
      clear HP HI
      go_wp2_with fail
      go_loopw [19] (fun i wr => ∃ k : Nat, k ≤ 255 ∧ i = .int .i64 k ∧ Below w.heap.size w wr ∧ t < wr.heap.size ∧
        Arr wr w.heap.size 256 (fun _ => .int .u8 0) ∧ Arr wr (w.heap.size + 1) 255 (pwV 255) ∧ Arr wr t 256 (tbV k))
        (fun i _ => 255 - (intOf i).toNat)
      case atStart => exact ⟨0, by omega, rfl, hB2, hz2, B0, B1, B2⟩
      case round =>
        clear hB2 hz2 B0 B1 B2
        obtain ⟨k, hk, rfl, hB, hz2, B0, B1, B2⟩ := hrel
        by_cases hlt : k < 255
        · have k0 : (0 : Int) ≤ (k : Int) := by omega
          have k8 : (k : Int) < 255 := by omega
          have I := fun W => idx83 PL k ((pw k).val) hlt (by rw [hPa k hlt, pwV, if_pos hlt]) W
          obtain ⟨m, hm⟩ : ∃ m, (255 - k) % 255 = m := ⟨_, rfl⟩
          have m1 : m < 255 := by omega
          have hmi : (255 - (k : Int)) % 255 = (m : Int) := by omega
          have m0 : (0 : Int) ≤ (m : Int) := by omega
          have m2 : (m : Int) < 255 := by omega
          have cm := B1.cv m m1 (.int .u8 ((pw m).val : Int)) (by rw [pwV, if_pos m1])
          have S := fun W => spread_any (pw m) W
          have p1 := (pw k).2
          have cp := B2.c (pw k).val p1
          have zp := B2.z (pw k).val p1
          have HN : Hid (∀ j, j < 256 → (if j = (pw k).val then Value.int .u8 ((spF (pw m)).val : Int) else tbV k j) = tbV (k + 1) j) := by rw [← hm]; exact tbV_next k hlt
          have q0 : (0 : Int) ≤ ((pw k).val : Int) := by omega
          have q1 : ((pw k).val : Int) < 256 := by omega
          clear hm hPa hPl
          generalize spF (pw m) = q at *
          generalize pw m = pm at *
          generalize pw k = pk at *
          go_wp2_with (go_at_call 141; refine (S _).mono ?_; rintro e w1 ⟨rfl, rfl⟩)
          refine ⟨⟨k + 1, by omega, by go_num, Bel.st hB (by omega) _, by rw [size_set]; omega, B0.other (by omega) _, B1.other (by omega) _, (B2.set pk.val p1 _).congr HN.out⟩, by simp [intOf]; omega⟩
        · have k8 : k = 255 := by omega
          subst k8
          have R2 : wr.rangeAt t 0 L := B2.range _ hlen hat
          have T1 := B0.there
          have sz : L.toArray.size = 256 := by rw [List.size_toArray]; exact hlen
          have h58 : (Tryz.prog.info? 163).map (·.size) = some L.length := by rw [hlen]; exact Tryz.info163
          have h58' : (Tryz.prog.info? 163).map (·.size) = some L.toArray.size := by rw [sz]; exact Tryz.info163
          have T1' : wr.there w.heap.size 0 L.toArray.size := by rw [sz]; exact T1
          have one := all_oneCell_toArray hone
          have R1 : (wr.setCells w.heap.size 0 L).rangeAt w.heap.size 0 L := World.rangeAt_setCells_same wr _ 0 _ (by rw [hlen]; exact T1)
          have lv := run_loadVar_mid (P := Tryz.prog) (wr.setCells w.heap.size 0 L) w.heap.size 0 163 L _ R1 Tryz.underlying163 rfl h58
          have LV : Hid _ := lv
          have HR2 : Hid _ := R2
          have H58 : Hid _ := h58
          have H58' : Hid _ := h58'
          have HT1 : Hid _ := T1'
          have HO : Hid _ := one
          clear B0 B1 B2 hk T1 R1 lv sz R2 h58 h58' T1' one hat hone hlen
          go_upto_region 12 with (fail)
          refine wp_region_list ?_
          refine wpList_load_mid (by rfl) 163 (.tmp 4) (by rfl) _ _ (by rfl) L _ HR2.out Tryz.underlying163 rfl H58.out ?_
          refine wpList_store_mid (by rfl) 163 (.tmp 0) (.tmp 32) (by rfl) _ _ _ (by rfl) (by rfl) HT1.out H58'.out HO.out ?_
          refine wpList_nil ?_
          have lv := LV.out
          clear HR2 H58 H58' HT1 HO LV
          go_wp2_with fail
          refine bodyPost_ret (v := .agg L.toArray) (results_cell1 Tryz.results135 _ (by rfl) lv) rfl ⟨rfl, ?_⟩
          exact below_setCells hB (by omega) _ _
theorem becoming_any (w : World) : Calls Tryz.prog 135 #[] w fun e w' => e = .returned (.agg (tbL sb).toArray) ∧ Below w.heap.size w w' :=
  becoming_core (tbL sb) ((List.range 255).map (pwV 255)) (by simp) (fun j hj => by simp [hj]) (tbL_len sb) (fun j hj => by rw [tbL_at sb j hj, tbV, tbF_all]) (tbL_one sb) w
theorem idx_u8 (s : ByteArray) (k : Nat) (hk : k < s.size) (W : World) : (Instr.index 9 (.string s) (.int .u8 (k : Int))).run Tryz.prog W = .ok (.int .u8 (bt s k)) W := by
  have h0 : (0 : Int) ≤ (k : Int) ∧ (k : Int) < (s.size : Int) := by omega
  have e : s.data[k]? = some (s.data[k]'hk) := Array.getElem?_eq_getElem hk
  unfold bt
  rw [e]
  simp [Instr.index, asIntOf, Sem.run_bind, Sem.run_pure, Result.andThen_ok, run_underlying Tryz.underlying9, h0, go_sem]
  rw [getElem?_pos s k hk]
  rfl
def boxS : ByteArray := ⟨(sbL.map UInt8.ofNat).toArray⟩
theorem box_size : boxS.size = 256 := by decide +kernel
theorem box_bt : ∀ a : By, bt boxS a.val = ((sb a).val : Int) := by decide +kernel
set_option maxHeartbeats 1000000 in
theorem rsub_any (b : By) (w : World) : Calls Tryz.prog 85 #[.int .u8 (b.val : Int)] w fun e w' => e = .returned (.int .u8 ((sb b).val : Int)) ∧ w' = w := by
  have key : ∀ (s : ByteArray) (h : b.val < s.size), s = boxS → ((s[b.val]'h).toNat : Int) = ((sb b).val : Int) := by
    intro s h e
    subst e
    rw [bt_of, box_bt]
  go_enter Tryz.func85, Tryz.ntmps85
  go_wp2
  go_ret
  refine ⟨?_, rfl⟩
  exact congrArg (fun x => Ending.returned (Value.int .u8 x)) (key _ _ (by kernel_rfl))
end Go.Proofs.YtjaljnfijhfkcaaGreatDoor
