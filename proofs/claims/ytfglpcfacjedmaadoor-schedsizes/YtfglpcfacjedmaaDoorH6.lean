/- hkdf.first, walked. -/
import Derived.Test.YtfglpcfacjedmaaDoorH5
import Derived.Test.YtfglpcfacjedmaaDoorZ2
import Derived.WalkMore
set_option linter.all false
set_option maxRecDepth 100000
namespace Go.Proofs.YtfglpcfacjedmaaDoor
open Go.RowKit Go.Shelf Go.Sort Go.Lib
attribute [local go_sem] Oper.semAt_some
/-- Between two rounds: what out holds, and the number. -/
def IF (w : World) (m : Nat) (pre : List Blk32) (W : World) : Prop :=
  ((∃ v, Boxed W (w.heap.size + 1) 65 v ∧ W.ownsRow w.heap.size 5 1 v (32 * pre.length) (strCells (ctB (pre.map (·.1)))) ∧ (pre = [] ∨ 32 * pre.length < m)) ∧ Boxed W w.heap.size 3 (.int .i64 (m : Int))) ∧ Below w.heap.size w W
/-- Behind the round that was left. -/
def IX (w : World) (m : Nat) (c : Code) (pre : List Blk32) (W : World) : Prop :=
  (∃ v, Boxed W (w.heap.size + 1) 65 v ∧ W.ownsRow w.heap.size 5 1 v m (strCells ((ctB (pre.map (·.1))).extract 0 m)) ∧ (c = .exit 0 ∧ m ≤ 32 * pre.length)) ∧ Below w.heap.size w W
theorem IF_own (w : World) (m B : Nat) (hB : w.heap.size ≤ B) : OwnFrom B (IF w m) := by
  have h1 : OwnFrom B _ := Own.from (holdsRow_own w.heap.size (w.heap.size + 1) 65 5 1 (fun pre : List Blk32 => 32 * pre.length) (fun pre => strCells (ctB (pre.map (·.1)))) (fun pre _ => pre = [] ∨ 32 * pre.length < m)) _
  have h2 : OwnFrom B _ := Own.from (boxed_own w.heap.size 3 (fun _ : List Blk32 => .int .i64 (m : Int))) _
  have h3 : OwnFrom B (fun (_ : List Blk32) W => Below w.heap.size w W) := ownFrom_below (Nat.le_refl _) hB
  exact fun s A A' row hs hg hr => ⟨⟨h1 s A A' row hs.1.1 hg hr, h2 s A A' row hs.1.2 hg hr⟩, h3 s A A' row hs.2 hg hr⟩
theorem IX_own (w : World) (m B : Nat) (hB : w.heap.size ≤ B) (c : Code) : OwnFrom B (IX w m c) := by
  have h1 : OwnFrom B _ := Own.from (holdsRow_own w.heap.size (w.heap.size + 1) 65 5 1 (fun pre : List Blk32 => m) (fun pre => strCells ((ctB (pre.map (·.1))).extract 0 m)) (fun pre _ => c = .exit 0 ∧ m ≤ 32 * pre.length)) _
  have h3 : OwnFrom B (fun (_ : List Blk32) W => Below w.heap.size w W) := ownFrom_below (Nat.le_refl _) hB
  exact fun s A A' row hs hg hr => ⟨h1 s A A' row hs.1 hg hr, h3 s A A' row hs.2 hg hr⟩
set_option maxHeartbeats 4000000 in
theorem first_core (T : Nat → ByteArray) (m : Nat) (hm : m ≤ 8160) (bp bi : Nat) (w : World)
    (hseq : ∀ (W : World), Below w.heap.size w W → SeqStopsK Fence.wide (8 - 1) Tryd.prog 77 #[.pointer (some ⟨bp, 0, none⟩), .pointer (some ⟨bi, 0, none⟩)] (fun x : Blk32 => #[.string x.1]) (Below w.heap.size) (fun ys => ys.map (·.1) = upT T 255) (fun pre => pre.map (·.1) <+: upT T 255) 255 W) :
    Calls Tryd.prog 64 #[.int .i64 (m : Int), .func (.func 77) #[] #[.pointer (some ⟨bp, 0, none⟩), .pointer (some ⟨bi, 0, none⟩)]] w fun e w' => e = .returned (.string ((ctB (upT T 255)).extract 0 m)) ∧ Below w.heap.size w w' := by
  obtain ⟨i0, hi, hz0, hz1, hz2⟩ := info_parts Tryd.info5
  refine (callsIn_wide (n := 8)).1 ?_
  refine callsIn_of_wp_marks Tryd.func64 rfl trivial ?_ rfl
  simp only [Tryd.ntmps64, List.size_toArray, List.length_cons, List.length_nil, Nat.reduceAdd, Nat.reduceSub, Array.replicate_succ, Array.replicate_zero, List.push_toArray, List.append_toArray, List.nil_append, List.cons_append]
  gi_wp2
  refine wpIn_wide.2 (wp_scope_straight ?_)
  go_wp2_with fail
  go_step3
  go_wp2_with fail
  refine (wpIn_wide (n := 8)).1 ?_
  have bN : Boxed ((w.alloc (.cells #[.int .i64 (m : Int)] 3)).alloc (.cells #[.slice none 0 0] 65)) w.heap.size 3 (.int .i64 (m : Int)) := (Boxed.new w 3 _).alloc _
  have bO : Boxed ((w.alloc (.cells #[.int .i64 (m : Int)] 3)).alloc (.cells #[.slice none 0 0] 65)) (w.heap.size + 1) 65 (.slice none 0 0) := by have := Boxed.new (w.alloc (.cells #[.int .i64 (m : Int)] 3)) 65 (.slice none 0 0); rwa [World.size_alloc] at this
  have hB0 : Below w.heap.size w ((w.alloc (.cells #[.int .i64 (m : Int)] 3)).alloc (.cells #[.slice none 0 0] 65)) := by go_grown
  refine wpIn_rangeFunc_ownF rfl (by omega) (gf := 77) (lb := #[.pointer (some ⟨bp, 0, none⟩), .pointer (some ⟨bi, 0, none⟩)]) rfl trivial (enters_of Tryd.func77 (by kernel_rfl) rfl)
    (hseq _ hB0) belowK_t (belowK_b (by simp; omega)) (Below.refl _ _) (fun _ => rfl)
    (IF w m)
    (IX w m)
    (IF_own w m _ (by simp; omega))
    (IX_own w m _ (by simp; omega))
    ⟨⟨⟨_, bO, World.ownsRow_nil _ _ _ _, .inl rfl⟩, bN⟩, hB0⟩
    (fun x => { tmps := #[.int .i64 (m : Int), .func (.func 77) #[] #[.pointer (some ⟨bp, 0, none⟩), .pointer (some ⟨bi, 0, none⟩)], .pointer (some ⟨w.heap.size, 0, none⟩), undef, .string ⟨#[]⟩, .pointer (some ⟨w.heap.size + 1, 0, none⟩), .string x.1, undef, .func (.func 77) #[] #[.pointer (some ⟨bp, 0, none⟩), .pointer (some ⟨bi, 0, none⟩)], .string x.1, undef, undef, undef, undef, undef, undef, undef, undef, undef, undef, undef, undef, undef, undef, undef, undef, undef, undef, undef], defers := [] }) ?assign ?body ?done ?stop
  case assign =>
    intro l x W K hK
    gi_wp2
    exact hK
  case body =>
    clear bN bO hB0 hseq
    rintro l pre x W ⟨⟨⟨v, hv, hrow, hpre⟩, hbn⟩, hB⟩ hlt
    obtain ⟨ao, cv, rfl⟩ := own_form hrow
    have hc := hv.cell
    have hcn := hbn.cell
    have hd : 1 ≤ 8 - 1 - 1 := by omega
    have sz := ctB_size pre
    have EX : Hid (ctB ((pre ++ [x]).map (·.1)) = ctB (pre.map (·.1)) ++ x.1) := by
      show _ = _
      rw [List.map_append, List.map_cons, List.map_nil, ctB_snoc]
    have el : (pre ++ [x]).length = pre.length + 1 := by simp
    have HR : Hid (W.ownsRow w.heap.size 5 1 (.slice ao (32 * pre.length) cv) (32 * pre.length) (strCells (ctB (pre.map (·.1))))) := hrow
    have HV : Hid (Boxed W (w.heap.size + 1) 65 (.slice ao (32 * pre.length) cv)) := hv
    have HN : Hid (Boxed W w.heap.size 3 (.int .i64 (m : Int))) := hbn
    have HE : Hid ((pre ++ [x]).length = pre.length + 1) := el
    obtain ⟨xb, x32⟩ := x
    dsimp only at *
    clear hrow hv hbn el
    generalize hU : ctB (pre.map (·.1)) = U at *
    obtain ⟨q, hq⟩ : ∃ q : Nat, pre.length = q := ⟨_, rfl⟩
    have HP : Hid (pre = [] ∨ 32 * pre.length < m) := hpre
    have HQ : Hid (pre.length = q) := hq
    have HS : Hid (U.size = 32 * pre.length) := sz
    rw [hq] at HR HV HE HS
    rw [hq] at hc
    obtain ⟨u, hu⟩ : ∃ u : Nat, 32 * q = u := ⟨_, rfl⟩
    rw [hu] at hc HR HV HS
    have HU : Hid (32 * q = u) := hu
    have q255 : q < 255 := by omega
    have u0 : (0 : Int) ≤ (u : Int) := by omega
    have u1 : (u : Int) < 8160 := by omega
    have x0 : (xb.size : Int) = 32 := by omega
    have hsz := hB.size
    have HX : Hid (xb.size = 32) := x32
    have hu' : u ≤ m := by
      rcases hpre with h | h
      · subst h
        have : q = 0 := by rw [← hq]; rfl
        omega
      · omega
    clear hpre hq sz hU hu hlt HP
    by_cases hmiss : u + 32 < m
    · have i1 : (32 : Int) < (m : Int) - (u : Int) := by omega
      have i2 : (m : Int) ≤ 8160 := by omega
      gi_wp2_with (gi_at_builtin; refine wpListIn_append_own_string _ rfl _ _ 65 9 rfl w.heap.size 5 i0 Tryd.underlying65 Tryd.underlying9 hi hz0 hz1 hz2 _ _ _ rfl HR.out xb rfl (by unfold maxLen; omega) (by omega) hsz ?_; intro v' w1 hown' hgrow; obtain ⟨ao', cv', rfl⟩ := own_form hown'; obtain ⟨hv1, hv2, hr2, hk2, hb2⟩ := boxed_app HV.out (by decide) HR.out hsz (by omega) hown' hgrow; have hc1 := hv1.cell; have hf1 := hv1.frozen; have hn2 := (HN.out.kept hgrow (HN.out.not_row (by decide) HR.out)).other (B' := w.heap.size + 1) (by omega) (.slice ao' (u + xb.size) cv'); clear hown' hgrow hv1)
      rw [HX.out] at hv2 hr2 hk2 hb2 hn2
      have o1 := HU.out
      refine ⟨hk2, hb2, ⟨⟨⟨_, hv2, ?_, .inr ?_⟩, hn2⟩, hB.trans hb2⟩⟩
      · rw [HE.out, EX.out, strCells_app, show 32 * (q + 1) = u + 32 by omega]; exact hr2
      · rw [HE.out]; omega
    · have i1 : (m : Int) - (u : Int) ≤ 32 := by omega
      have i2 : (0 : Int) ≤ (m : Int) - (u : Int) := by omega
      have i3 : (m : Int) ≤ 8160 := by omega
      gi_wp2
      have r := fun ds os => cell_regrown hc ds os
      refine wpIn_region_below_tail 4 (by kernel_rfl) (by kernel_rfl) ?_
      simp only [List.take_succ_cons, List.take_zero, List.drop_succ_cons, List.drop_zero]
      repeat (go_big_quiet_step (fail))
      refine wpQuiet_nil ?_
      intro w5 hw'
      obtain ⟨⟨dq, osq⟩, hw''⟩ := hw'
      have hb := below_of hw''
      clear hw'' r
      have HR5 : Hid (w5.ownsRow w.heap.size 5 1 (.slice ao u cv) u (strCells U)) := World.ownsRow.kept HR.out (gby hb) (by cases ao <;> simp [Value.ownBlock])
      have HV5 : Hid (Boxed w5 (w.heap.size + 1) 65 (.slice ao u cv)) := HV.out.kept (gby hb) (by simp)
      have hsz5 : w.heap.size ≤ w5.heap.size := Nat.le_trans hsz hb.size
      gi_wp2_with (gi_at_builtin; refine wpListIn_append_own_string _ rfl _ _ 65 9 rfl w.heap.size 5 i0 Tryd.underlying65 Tryd.underlying9 hi hz0 hz1 hz2 _ _ _ rfl HR5.out (xb.extract 0 (m - u)) rfl (by rw [ByteArray.size_extract]; unfold maxLen; omega) (by rw [ByteArray.size_extract]; omega) hsz5 ?_; intro v' w1 hown' hgrow; obtain ⟨ao', cv', rfl⟩ := own_form hown'; obtain ⟨hv1, hv2, hr2, hk2, hb2⟩ := boxed_app HV5.out (by decide) HR5.out hsz5 (by omega) hown' hgrow; have hc1 := hv1.cell; have hf1 := hv1.frozen; clear hown' hgrow hv1)
      have em : u + min (m - u) 32 = m := by omega
      have es : u + (xb.extract 0 (m - u)).size = m := by rw [ByteArray.size_extract, HX.out]; omega
      rw [es] at hv2 hr2 hk2 hb2
      rw [em]
      have o1 := HU.out
      refine ⟨(ko_below hb).trans hk2, ⟨⟨_, hv2, ?_, rfl, ?_⟩, (Bel.call hB hb).trans hb2⟩⟩
      · rw [EX.out, ext_app_hi _ _ _ (by rw [HS.out]; omega), strCells_app, HS.out]; exact hr2
      · rw [HE.out]; omega
  case done =>
    rintro De ys W hD hS ⟨⟨⟨v, hv, hrow, hpre⟩, hbn⟩, hB⟩ hK
    exfalso
    have yl : ys.length = 255 := by have := congrArg List.length hS; rwa [List.length_map, upT_len] at this
    rcases hpre with h | h
    · rw [h] at yl; simp at yl
    · omega
  case stop =>
    clear bN bO hB0 hseq
    rintro De c pre W hD hS ⟨⟨v, hv, hrow, rfl, hle⟩, hB⟩ hK
    obtain ⟨ao, cv, rfl⟩ := own_form hrow
    have hc := hv.cell
    have sz := ctB_size pre
    have cvt := convR W _ m _ _ hrow (by rw [ByteArray.size_extract]; omega)
    rw [← ctB_pre hS m (by omega)] at cvt
    obtain ⟨R, hR⟩ : ∃ R, (ctB (upT T 255)).extract 0 m = R := ⟨_, rfl⟩
    rw [hR] at cvt
    have HRR : Hid ((ctB (upT T 255)).extract 0 m = R) := hR
    clear hrow hS sz hR
    gi_wp2
    go_wp2_with fail
    try rw [Exit.noGoto_ret]
    refine ⟨by simp, .inl ⟨_, _, rfl, run_takeDeferred hK, ?_⟩⟩
    exact ⟨_, results_tmp rfl _ _ _, by rw [HRR.out]; rfl, hB.trans (belowK_b (w := w) (Nat.le_refl _) W De _ _ (by simp at hD; omega) hK rfl rfl)⟩
/-- What is expanded: the blocks. -/
def tB (prk info : ByteArray) : Nat → ByteArray
  | 0 => ⟨#[]⟩
  | k + 1 => macS prk (tB prk info k ++ info ++ by1 ((k : Int) + 1))
theorem tB_size (prk info : ByteArray) (k : Nat) : (tB prk info (k + 1)).size = 32 := macS_size _ _
theorem tB_le (prk info : ByteArray) (k : Nat) : (tB prk info k).size ≤ 32 := by
  cases k with
  | zero => show (⟨#[]⟩ : ByteArray).size ≤ 32; decide
  | succ k => rw [tB_size]; omega
/-- All 8160 bytes of a key, and the first of them. -/
def allS (prk info : ByteArray) : ByteArray := ctB (upT (tB prk info) 255)
def expS (prk info : ByteArray) (m : Nat) : ByteArray := (allS prk info).extract 0 m
theorem upT_blk (prk info : ByteArray) (k : Nat) : (ctB (upT (tB prk info) k)).size = 32 * k := by
  have := ctB_size ((List.range k).map (fun j => (⟨tB prk info (j + 1), tB_size prk info j⟩ : Blk32)))
  rw [List.map_map, List.length_map, List.length_range] at this
  exact this
theorem expS_size (prk info : ByteArray) (m : Nat) (hm : m ≤ 8160) : (expS prk info m).size = m := by
  unfold expS allS
  rw [ByteArray.size_extract, upT_blk]
  omega
set_option maxHeartbeats 2000000 in
theorem expand_yes (prk info : ByteArray) (hp : prk.size ≤ 1000000) (hi : info.size ≤ 10000) (m : Nat) (hm : m ≤ 8160) (w : World) (hT : Tab w) :
    Calls Tryd.prog 47 #[.string prk, .string info, .int .i64 (m : Int)] w fun e w' => e = .returned (.tuple #[.string (expS prk info m), .int .i64 0]) ∧ Below w.heap.size w w' := by
  have i0 : (0 : Int) ≤ (m : Int) := by omega
  have i1 : (m : Int) ≤ 8160 := by omega
  have C21 := hblocks_any prk info w
  have hT2 : Tab ((w.alloc (.cells #[.string prk] 9)).alloc (.cells #[.string info] 9)) := (hT.al _).al _
  have cp : ((w.alloc (.cells #[.string prk] 9)).alloc (.cells #[.string info] 9)).cell? ⟨w.heap.size, 0, none⟩ = some (.string prk) := ((Boxed.new w 9 (.string prk)).alloc _).cell
  have ci : ((w.alloc (.cells #[.string prk] 9)).alloc (.cells #[.string info] 9)).cell? ⟨w.heap.size + 1, 0, none⟩ = some (.string info) := by
    have := (Boxed.new (w.alloc (.cells #[.string prk] 9)) 9 (.string info)).cell
    rwa [World.size_alloc] at this
  have hb2 : Below w.heap.size w ((w.alloc (.cells #[.string prk] 9)).alloc (.cells #[.string info] 9)) := by go_grown
  have hs2 : ((w.alloc (.cells #[.string prk] 9)).alloc (.cells #[.string info] 9)).heap.size = w.heap.size + 2 := by simp
  generalize (w.alloc (.cells #[.string prk] 9)).alloc (.cells #[.string info] 9) = w2 at *
  have C20 := first_core (tB prk info) m hm w.heap.size (w.heap.size + 1) w2 (fun W hW => hblocks_seq (tB prk info) (fun k => by1 (k : Int)) prk info (8 - 1) w.heap.size (w.heap.size + 1) w2.heap.size (by omega) rfl (tB_size prk info) (fun k => by1_size _) hi
    (fun k A => byteOf_any _ A) (fun k A hA => mac_any prk _ hp (by rw [app_size, app_size, by1_size]; have := tB_le prk info k; omega) A hA) W (hT2.to hW) hT2.2.2 (by omega) (by omega) hW.size
    ((hW.cell (p := ⟨w.heap.size, 0, none⟩) (by show w.heap.size < _; omega)).trans cp) ((hW.cell (p := ⟨w.heap.size + 1, 0, none⟩) (by show w.heap.size + 1 < _; omega)).trans ci))
  have ee : (ctB (upT (tB prk info) 255)).extract 0 m = expS prk info m := rfl
  rw [ee] at C20
  generalize expS prk info m = S at *
  clear ee
  go_enter Tryd.func47, Tryd.ntmps47
  go_wp2_with (first | (go_at_call 65; refine C21.mono ?_; rintro e w3 ⟨rfl, rfl⟩) | (go_at_call 64; refine C20.mono ?_; rintro e w3 ⟨rfl, hb3⟩))
  refine bodyPost_ret (v := .tuple #[.string S, .int .i64 0]) (by simp [results, Tryd.results47, go_sem]) rfl ?_
  exact ⟨rfl, hb2.trans (hb3.mono (by omega))⟩
theorem expand_no (prk info : ByteArray) (n : Int) (hn : n < 0 ∨ 8160 < n) (w : World) :
    Calls Tryd.prog 47 #[.string prk, .string info, .int .i64 n] w fun e w' => e = .returned (.tuple #[.string ⟨#[]⟩, .int .i64 13]) ∧ Below w.heap.size w w' := by
  rcases hn with h | h
  · go_enter Tryd.func47, Tryd.ntmps47
    go_wp2_with fail
    refine bodyPost_ret (v := .tuple #[.string ⟨#[]⟩, .int .i64 13]) (by simp [results, Tryd.results47, go_sem]) rfl ?_
    exact ⟨rfl, Below.refl _ _⟩
  · go_enter Tryd.func47, Tryd.ntmps47
    go_wp2_with fail
    refine bodyPost_ret (v := .tuple #[.string ⟨#[]⟩, .int .i64 13]) (by simp [results, Tryd.results47, go_sem]) rfl ?_
    exact ⟨rfl, Below.refl _ _⟩
/-- What Expand answers. -/
def exE (n : Int) : Int := if n < 0 ∨ 8160 < n then 13 else 0
def exS (prk info : ByteArray) (n : Int) : ByteArray := if n < 0 ∨ 8160 < n then ⟨#[]⟩ else expS prk info n.toNat
theorem expand_any (prk info : ByteArray) (hp : prk.size ≤ 1000000) (hi : info.size ≤ 10000) (n : Int) (w : World) (hT : Tab w) :
    Calls Tryd.prog 47 #[.string prk, .string info, .int .i64 n] w fun e w' => e = .returned (.tuple #[.string (exS prk info n), .int .i64 (exE n)]) ∧ Below w.heap.size w w' := by
  unfold exS exE
  by_cases h : n < 0 ∨ 8160 < n
  · rw [if_pos h, if_pos h]; exact expand_no prk info n h w
  · rw [if_neg h, if_neg h]
    have e : ((n.toNat : Nat) : Int) = n := by omega
    have := expand_yes prk info hp hi n.toNat (by omega) w hT
    rwa [e] at this
end Go.Proofs.YtfglpcfacjedmaaDoor
