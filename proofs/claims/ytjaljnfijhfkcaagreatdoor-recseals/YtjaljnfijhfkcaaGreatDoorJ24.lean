/- Content in pieces: the iterator, and Split of the program. -/
import Derived.RangeFuncFrom
import Derived.WalkMore
import Derived.Test.YtjaljnfijhfkcaaGreatDoorJ2
set_option linter.all false
set_option maxRecDepth 100000
namespace Go.Proofs.YtjaljnfijhfkcaaGreatDoor
open Go.RowKit Go.Shelf Go.Sort Go.Lib
attribute [local go_sem] Oper.semAt_some
/-- The j-th piece of a text; the first k; all. -/
def pc (s : ByteArray) (j : Nat) : ByteArray := s.extract (16384 * j) (16384 * (j + 1))
def upP (s : ByteArray) (k : Nat) : List ByteArray := (List.range k).map (pc s)
theorem upP_succ (s : ByteArray) (k : Nat) : upP s (k + 1) = upP s k ++ [pc s k] := by simp [upP, List.range_succ]
def nP (s : ByteArray) : Nat := (s.size + 16383) / 16384
def pcs (s : ByteArray) : List ByteArray := upP s (nP s)
/-- What is left behind k pieces. -/
def rsS (s : ByteArray) (k : Nat) : ByteArray := s.extract (16384 * k) s.size
theorem rsS_size (s : ByteArray) (k : Nat) : (rsS s k).size = s.size - 16384 * k := by unfold rsS; rw [ByteArray.size_extract]; omega
theorem rsS_0 (s : ByteArray) : rsS s 0 = s := by
  apply ba_ext
  unfold rsS
  rw [ext_list, Nat.mul_zero, List.drop_zero, Nat.sub_zero, List.take_of_length_le (by rw [len_list]; exact Nat.le_refl _)]
theorem rsS_pc (s : ByteArray) (k n : Nat) (h : n = 16384 ∨ (n = (rsS s k).size ∧ n ≤ 16384)) : (rsS s k).extract 0 n = pc s k := by
  apply ba_ext
  unfold pc
  rcases h with rfl | ⟨rfl, h⟩
  · unfold rsS
    rw [ext_list, ext_list, ext_list, List.drop_zero, List.take_take]
    by_cases c : s.size - 16384 * k ≤ 16384
    · rw [List.take_of_length_le (by rw [List.length_drop, len_list]; omega), List.take_of_length_le (by rw [List.length_drop, len_list]; omega)]
    · rw [show min (16384 - 0) (s.size - 16384 * k) = 16384 * (k + 1) - 16384 * k by omega]
  · rw [rsS_size] at h ⊢
    unfold rsS
    rw [ext_list, ext_list, ext_list, List.drop_zero, List.take_of_length_le (by rw [List.length_take, List.length_drop, len_list]; omega), List.take_of_length_le (by rw [List.length_drop, len_list]; omega), List.take_of_length_le (by rw [List.length_drop, len_list]; omega)]
theorem rsS_rs (s : ByteArray) (k n : Nat) (h : n = 16384 ∨ (n = (rsS s k).size ∧ n ≤ 16384)) : (rsS s k).extract n (rsS s k).size = rsS s (k + 1) := by
  apply ba_ext
  rw [rsS_size] at h ⊢
  unfold rsS
  rw [ext_list, ext_list, ext_list]
  rcases h with rfl | ⟨rfl, h⟩
  · rw [List.drop_take, List.drop_drop, List.take_take]
    rw [show 16384 * k + 16384 = 16384 * (k + 1) by omega, show min (s.size - 16384 * k - 16384) (s.size - 16384 * k - 16384) = s.size - 16384 * (k + 1) by omega]
  · have e1 : s.size - 16384 * k - (s.size - 16384 * k) = 0 := by omega
    rw [e1, List.take_zero]
    rw [List.drop_eq_nil_of_le (by rw [len_list]; omega), List.take_nil]
theorem ne_nil_of {t : ByteArray} (h : t.size ≠ 0) : (t.toList == []) = false := by
  rw [ByteArray.toList_eq]
  cases hh : t.data.toList with
  | nil => exact absurd (by rw [← len_list, hh]; rfl) h
  | cons a l => rfl
def lnV (v : Value) : Nat := match v with
  | .string s => s.size
  | _ => 0
set_option maxHeartbeats 4000000 in
theorem pieces1_in (s : ByteArray) (hs : s.size ≤ 1000000) (n l bp n₀ : Nat) (hn : 1 ≤ n) (Jv Jx : List ByteArray → World → Prop)
    (hY : ∀ pre (x : ByteArray) W, Jv pre W → pre.length < 1000 → YieldAt Fence.wide (n - 1) Tryz.prog l #[.string x] W fun e W' =>
      (e = .returned (.bool true) ∧ Jv (pre ++ [x]) W' ∧ Below n₀ W W') ∨ (e = .returned (.bool false) ∧ Jx (pre ++ [x]) W'))
    (W : World) (cp : W.cell? ⟨bp, 0, none⟩ = some (.string s)) (h0 : Jv [] W) :
    CallsIn Fence.wide n Tryz.prog 51 #[.func (.yield l) #[] #[], .pointer (some ⟨bp, 0, none⟩)] W fun e W' => (∃ v, e = .returned v) ∧
      ((∃ ys : List ByteArray, ys = pcs s ∧ Jv ys W') ∨ (∃ pre : List ByteArray, True ∧ Jx pre W')) := by
  have hd : 1 ≤ n := hn
  refine callsIn_of_wp Tryz.func51 rfl trivial ?_ rfl
  simp only [Tryz.ntmps51, List.size_toArray, List.length_cons, List.length_nil, Nat.reduceAdd, Nat.reduceSub, Array.replicate_succ, Array.replicate_zero, List.push_toArray, List.append_toArray, List.nil_append, List.cons_append]
  have hnot : ∀ (x : Bool) (w : World), (Op.unary .not (.bool x)).run Tryz.prog w = .ok (.bool (!x)) w := fun _ _ => rfl
  gi_wp2
  gi_loopw [3] (fun v wr => ∃ k : Nat, k ≤ nP s ∧ v = .string (rsS s k) ∧ Jv (upP s k) wr) (fun v _ => lnV v)
  case atStart => exact ⟨0, by omega, by rw [rsS_0], h0⟩
  case round =>
    clear h0 cp
    obtain ⟨k, hk, rfl, hJs⟩ := hrel
    have z := rsS_size s k
    by_cases hlt : 16384 * k < s.size
    · have te := ne_nil_of (t := rsS s k) (by omega)
      have hkn : k < nP s := by unfold nP; omega
      have HU : Hid (upP s (k + 1) = upP s k ++ [pc s k]) := upP_succ s k
      have HZ : Hid ((rsS s (k + 1)).size < (rsS s k).size) := by
        show _ < _
        rw [rsS_size, rsS_size]; omega
      have hlen : (upP s k).length < 1000 := by simp [upP]; unfold nP at hkn; omega
      have t1 : ((rsS s k).size : Int) ≤ 1000000 := by omega
      by_cases hm : (rsS s k).size ≤ 16384
      · have P1 := rsS_pc s k (rsS s k).size (.inr ⟨rfl, hm⟩)
        have P2 := rsS_rs s k (rsS s k).size (.inr ⟨rfl, hm⟩)
        have P3 : pc s k = rsS s k := by
          rw [← P1]
          apply ba_ext
          rw [ext_list, List.drop_zero, Nat.sub_zero, List.take_of_length_le (by rw [len_list]; exact Nat.le_refl _)]
        have m1 : ((rsS s k).size : Int) ≤ 16384 := by omega
        have mn : min ((rsS s k).size : Int) 16384 = ((rsS s k).size : Int) := by omega
        rw [P3] at HU
        obtain ⟨fn, tmps, assign, body, hy, hR⟩ := hY _ (rsS s k) wr hJs hlen
        have HP : Hid ((rsS s k).extract (rsS s k).size (rsS s k).size = rsS s (k + 1)) := P2
        clear P1 P2 P3 hm z hlt hlen
        obtain ⟨t', ht'⟩ : ∃ t', rsS s (k + 1) = t' := ⟨_, rfl⟩
        have HT : Hid (rsS s (k + 1) = t') := ht'
        rw [ht'] at HZ HP
        clear ht'
        generalize rsS s k = t at *
        gi_wp2
        refine hR.mono ?_
        rintro e W3 (⟨rfl, hJ3, hb3⟩ | ⟨rfl, hJx3⟩)
        · gi_wp2
          refine ⟨⟨k + 1, by omega, ?_, ?_⟩, ?_⟩
          · first | (rw [HT.out, ← HP.out]; done) | (rw [HT.out, ← HP.out]; simp)
          · rw [HU.out]; exact hJ3
          · have := HZ.out
            rw [← HP.out] at this
            simpa [lnV] using this
        · gi_wp2
          refine bodyPost_ret (results_none rfl _ _ _) rfl ?_
          exact ⟨⟨_, rfl⟩, .inr ⟨_, trivial, hJx3⟩⟩
      · have P1 := rsS_pc s k 16384 (.inl rfl)
        have P2 := rsS_rs s k 16384 (.inl rfl)
        have m1 : ¬ ((rsS s k).size : Int) ≤ 16384 := by omega
        have m2 : 16384 ≤ ((rsS s k).size : Int) := by omega
        have m3 : 16384 < ((rsS s k).size : Int) := by omega
        have mn : min ((rsS s k).size : Int) 16384 = 16384 := by omega
        rw [← P1] at HU
        obtain ⟨fn, tmps, assign, body, hy, hR⟩ := hY _ ((rsS s k).extract 0 16384) wr hJs hlen
        have HP : Hid ((rsS s k).extract 16384 (rsS s k).size = rsS s (k + 1)) := P2
        clear P1 P2 hm z hlt hlen
        obtain ⟨t', ht'⟩ : ∃ t', rsS s (k + 1) = t' := ⟨_, rfl⟩
        have HT : Hid (rsS s (k + 1) = t') := ht'
        rw [ht'] at HZ HP
        clear ht'
        generalize rsS s k = t at *
        gi_wp2
        refine hR.mono ?_
        rintro e W3 (⟨rfl, hJ3, hb3⟩ | ⟨rfl, hJx3⟩)
        · gi_wp2
          refine ⟨⟨k + 1, by omega, ?_, ?_⟩, ?_⟩
          · first | (rw [HT.out, ← HP.out]; done) | (rw [HT.out, ← HP.out]; simp)
          · rw [HU.out]; exact hJ3
          · have := HZ.out
            rw [← HP.out] at this
            simpa [lnV] using this
        · gi_wp2
          refine bodyPost_ret (results_none rfl _ _ _) rfl ?_
          exact ⟨⟨_, rfl⟩, .inr ⟨_, trivial, hJx3⟩⟩
    · have hn0 : (rsS s k).size = 0 := by omega
      have e0 : rsS s k = ⟨#[]⟩ := ba_ext (by have := List.eq_nil_of_length_eq_zero (l := (rsS s k).data.toList) (by rw [len_list]; exact hn0); rw [this])
      rw [e0]
      have HE : Hid (upP s k = pcs s) := by
        show _ = _
        unfold pcs
        rw [show nP s = k by unfold nP at hk ⊢; omega]
      gi_wp2
      go_end0
      exact ⟨⟨_, rfl⟩, .inl ⟨_, HE.out, hJs⟩⟩
theorem pieces_seq (s : ByteArray) (hs : s.size ≤ 1000000) (n bp n₀ : Nat) (hn : 1 ≤ n) (w0 : World) (hb : bp < w0.heap.size) (cp : w0.cell? ⟨bp, 0, none⟩ = some (.string s)) :
    SeqStopsK Fence.wide n Tryz.prog 51 #[.pointer (some ⟨bp, 0, none⟩)] (fun x : ByteArray => #[.string x]) (Below n₀) (fun ys => ys = pcs s) (fun _ => True) 1000 w0 :=
  fun l Jv Jx W hW hJ _ hY h0 => pieces1_in s hs n l bp n₀ hn Jv Jx hY W ((hW.cell (p := ⟨bp, 0, none⟩) hb).trans cp) h0
theorem pieces_any (s : ByteArray) (w : World) : Calls Tryz.prog 32 #[.string s] w fun e w' => e = .returned (.func (.func 51) #[] #[.pointer (some ⟨w.heap.size, 0, none⟩)]) ∧ w' = w.alloc (.cells #[.string s] 9) := by
  go_enter Tryz.func32, Tryz.ntmps32
  go_wp2
  go_ret
  exact ⟨rfl, rfl⟩
/-- Records as cells. -/
def rcC (k : Int) (l : List ByteArray) : List Value := l.flatMap fun p => [.int .i64 k, .string p]
theorem rcC_snoc (k : Int) (l : List ByteArray) (p : ByteArray) : rcC k (l ++ [p]) = rcC k l ++ [.int .i64 k, .string p] := by simp [rcC]
theorem rcC_len (k : Int) (l : List ByteArray) : (rcC k l).length = 2 * l.length := by
  induction l with
  | nil => rfl
  | cons a l ih =>
    have : rcC k (a :: l) = [.int .i64 k, .string a] ++ rcC k l := by simp [rcC]
    rw [this, List.length_append, ih]
    simp
    omega
theorem own_formR {W : World} {b n e z : Nat} {v : Value} {xs : List Value} (h : W.ownsRow b e z v n xs) : ∃ ao c, v = .slice ao n c := by
  rcases h.2 with ⟨h, h0⟩ | ⟨g, c, _, h, _⟩
  · exact ⟨none, 0, by rw [h, h0]⟩
  · exact ⟨_, c, h⟩
/-- Between two rounds. -/
def ISp (w : World) (k : Int) (pre : List ByteArray) (W : World) : Prop :=
  ((∃ v, Boxed W (w.heap.size + 1) 48 v ∧ W.ownsRow w.heap.size 26 2 v pre.length (rcC k pre) ∧ True) ∧ Boxed W w.heap.size 3 (.int .i64 k)) ∧ Below w.heap.size w W
theorem ISp_own (w : World) (k : Int) (B : Nat) (hB : w.heap.size ≤ B) : OwnFrom B (ISp w k) := by
  have h1 : OwnFrom B _ := Own.from (holdsRow_own w.heap.size (w.heap.size + 1) 48 26 2 (fun pre : List ByteArray => pre.length) (fun pre => rcC k pre) (fun _ _ => True)) _
  have h2 : OwnFrom B _ := Own.from (boxed_own w.heap.size 3 (fun _ : List ByteArray => .int .i64 k)) _
  have h3 : OwnFrom B (fun (_ : List ByteArray) W => Below w.heap.size w W) := ownFrom_below (Nat.le_refl _) hB
  exact fun s A A' row hs hg hr => ⟨⟨h1 s A A' row hs.1.1 hg hr, h2 s A A' row hs.1.2 hg hr⟩, h3 s A A' row hs.2 hg hr⟩
theorem Tryz.infoR : (Tryz.prog.info? 26).map (fun i => (i.zero, i.size, i.bytes)) = some (some (.agg #[.int .i64 0, .string ⟨#[]⟩]), 2, 24) := by kernel_rfl
set_option maxHeartbeats 4000000 in
theorem Split_any (k : Int) (s : ByteArray) (hs : s.size ≤ 1000000) (w : World) :
    Calls Tryz.prog 16 #[.int .i64 k, .string s] w fun e w' => ∃ v, e = .returned v ∧ w'.ownsRow w.heap.size 26 2 v (pcs s).length (rcC k (pcs s)) ∧ Below w.heap.size w w' := by
  obtain ⟨i0, hi, hi2⟩ := Option.map_eq_some_iff.1 Tryz.infoR
  have hz0 : i0.zero = some (.agg #[.int .i64 0, .string ⟨#[]⟩]) := by injection hi2
  have hz1 : i0.size = 2 := by injection hi2 with _ h; injection h
  have hz2 : i0.bytes = 24 := by injection hi2 with _ h; injection h
  refine (callsIn_wide (n := 8)).1 ?_
  refine callsIn_of_wp_marks Tryz.func16 rfl trivial ?_ rfl
  simp only [Tryz.ntmps16, List.size_toArray, List.length_cons, List.length_nil, Nat.reduceAdd, Nat.reduceSub, Array.replicate_succ, Array.replicate_zero, List.push_toArray, List.append_toArray, List.nil_append, List.cons_append]
  gi_wp2_with (refine ⟨trivial, ?_⟩; gi_at_call 32; refine (callsIn_wide.2 (pieces_any s _)).mono ?_; rintro e w3 ⟨rfl, rfl⟩)
  have bK : Boxed (((w.alloc (.cells #[.int .i64 k] 3)).alloc (.cells #[.slice none 0 0] 48)).alloc (.cells #[.string s] 9)) w.heap.size 3 (.int .i64 k) := ((Boxed.new w 3 _).alloc _).alloc _
  have bO : Boxed (((w.alloc (.cells #[.int .i64 k] 3)).alloc (.cells #[.slice none 0 0] 48)).alloc (.cells #[.string s] 9)) (w.heap.size + 1) 48 (.slice none 0 0) := by
    have := (Boxed.new (w.alloc (.cells #[.int .i64 k] 3)) 48 (.slice none 0 0)).alloc (.cells #[.string s] 9)
    rwa [World.size_alloc] at this
  have bS : Boxed (((w.alloc (.cells #[.int .i64 k] 3)).alloc (.cells #[.slice none 0 0] 48)).alloc (.cells #[.string s] 9)) (w.heap.size + 1 + 1) 9 (.string s) := by
    have := Boxed.new ((w.alloc (.cells #[.int .i64 k] 3)).alloc (.cells #[.slice none 0 0] 48)) 9 (.string s)
    rwa [World.size_alloc, World.size_alloc] at this
  have hB0 : Below w.heap.size w (((w.alloc (.cells #[.int .i64 k] 3)).alloc (.cells #[.slice none 0 0] 48)).alloc (.cells #[.string s] 9)) := by go_grown
  have hsz0 : (((w.alloc (.cells #[.int .i64 k] 3)).alloc (.cells #[.slice none 0 0] 48)).alloc (.cells #[.string s] 9)).heap.size = w.heap.size + 3 := by simp
  generalize ((w.alloc (.cells #[.int .i64 k] 3)).alloc (.cells #[.slice none 0 0] 48)).alloc (.cells #[.string s] 9) = w4 at *
  refine wpIn_rangeFunc_ownF rfl (by omega) (gf := 51) (lb := #[.pointer (some ⟨w.heap.size + 1 + 1, 0, none⟩)]) rfl trivial (enters_of Tryz.func51 (by kernel_rfl) rfl)
    (pieces_seq s hs _ (w.heap.size + 1 + 1) w.heap.size (by omega) w4 bS.lt bS.cell) belowK_t (belowK_b (by omega)) (Below.refl _ _) (fun _ => rfl)
    (ISp w k) (fun _ _ _ => False) (ISp_own w k _ (by omega)) (fun _ _ _ _ _ h _ _ => h)
    ⟨⟨⟨_, bO, World.ownsRow_nil _ _ _ _, trivial⟩, bK⟩, hB0⟩
    (fun x => { tmps := #[.int .i64 k, .string s, .pointer (some ⟨w.heap.size, 0, none⟩), undef, .slice none 0 0, .pointer (some ⟨w.heap.size + 1, 0, none⟩), .string x, .string s, .func (.func 51) #[] #[.pointer (some ⟨w.heap.size + 1 + 1, 0, none⟩)], .string x, undef, undef, undef, undef, undef, undef, undef], defers := [] }) ?assign ?body ?done ?stop
  case assign =>
    intro l x W K hK
    gi_wp2
    exact hK
  case body =>
    clear bK bO bS hB0
    rintro l pre x W ⟨⟨⟨v, hv, hrow, _⟩, hbk⟩, hB⟩ hlt
    obtain ⟨ao, cv, rfl⟩ := own_formR hrow
    have hc := hv.cell
    have hck := hbk.cell
    have hd : 1 ≤ 8 - 1 - 1 := by omega
    have hsz := hB.size
    have el : (pre ++ [x]).length = pre.length + 1 := by simp
    have HR : Hid (W.ownsRow w.heap.size 26 2 (.slice ao pre.length cv) pre.length (rcC k pre)) := hrow
    have HV : Hid (Boxed W (w.heap.size + 1) 48 (.slice ao pre.length cv)) := hv
    have HK : Hid (Boxed W w.heap.size 3 (.int .i64 k)) := hbk
    have HE : Hid ((pre ++ [x]).length = pre.length + 1) := el
    have HC : Hid (rcC k (pre ++ [x]) = rcC k pre ++ [.int .i64 k, .string x]) := rcC_snoc k pre x
    have HL : Hid (pre.length < 1000) := hlt
    clear hrow hv hbk el hlt
    gi_wp2_with (gi_at_builtin; refine wpListIn_append_own _ rfl _ _ 48 rfl w.heap.size 26 i0 (.agg #[.int .i64 0, .string ⟨#[]⟩]) 2 24 Tryz.underlying48 hi hz0 hz1 hz2 rfl (by decide) _ _ _ rfl (World.ownsRow.alloc HR.out _) ⟨W.heap.size, 0, none⟩ 1 1 [.int .i64 k, .string x] rfl rfl (news_new W [.int .i64 k, .string x] 26) (by simp [Value.oneCell']) (by have := HL.out; unfold maxLen; omega) (by have := HL.out; omega) (by simp; omega) ?_; intro v' w1 hown' hgrow _; obtain ⟨ao', cv', rfl⟩ := own_formR hown'; obtain ⟨hv1, hv2, hr2, hk2, hb2⟩ := Boxed.appended HV.out (by decide) HR.out hsz (by omega) hown' hgrow; have hc1 := hv1.cell; have hf1 := hv1.frozen)
    have hk3 := ((HK.out.alloc (.cells #[.int .i64 k, .string x] 26)).kept hgrow (HK.out.not_row (by decide) HR.out)).kept (grownBy_setCell' w1 (w.heap.size + 1) (.slice ao' (pre.length + 1) cv')) (by simp)
    refine ⟨hk2, hb2, ⟨⟨⟨_, hv2, ?_, trivial⟩, hk3⟩, hB.trans hb2⟩⟩
    rw [HE.out, HC.out]
    exact hr2
  case done =>
    clear bK bO bS hB0
    rintro De ys W hD hS ⟨⟨⟨v, hv, hrow, _⟩, hbk⟩, hB⟩ hK
    rw [show ys = pcs s from hS] at hrow
    have hc := hv.cell
    have HR : Hid _ := hrow
    clear hrow hS
    gi_wp2
    refine ⟨by simp, .inl ⟨_, _, rfl, run_takeDeferred hK, ?_⟩⟩
    exact ⟨_, results_tmp rfl _ _ _, v, rfl, ownsRow_putObj HR.out _ hK rfl, hB.trans (belowK_b (w := w) (Nat.le_refl _) W De _ _ (by omega) hK rfl rfl)⟩
  case stop =>
    rintro De c pre W hD hS h hK
    exact h.elim
end Go.Proofs.YtjaljnfijhfkcaaGreatDoor
