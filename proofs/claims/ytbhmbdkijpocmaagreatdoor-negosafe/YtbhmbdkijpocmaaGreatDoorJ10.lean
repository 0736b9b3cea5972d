/- Texts joined: N8, NS, NF, NL, QD, QL, QM. -/
import Derived.Test.YtbhmbdkijpocmaaGreatDoorJ6
import Derived.Test.YtbhmbdkijpocmaaGreatDoorJ7
import Derived.Test.YtbhmbdkijpocmaaGreatDoorJ8
import Derived.Test.YtbhmbdkijpocmaaGreatDoorJ9
import Derived.Test.YtbhmbdkijpocmaaGreatDoorJ2
import Derived.Test.YtbhmbdkijpocmaaGreatDoorJ4
import Derived.Test.YtbhmbdkijpocmaaGreatDoorJ3
/- The reference of nego: Answer as a function. -/
set_option linter.all false
set_option maxRecDepth 100000
namespace Go.Proofs.YtbhmbdkijpocmaaGreatDoor
open Go.RowKit Go.Shelf Go.Sort Go.Lib
theorem nAnswer_any (c : Kc) (l : List Ke) (va vc vl : Value) (w : World) (HA : Nls w va c.ws) (HC : Sls w vc c.cs) (HL : Kls w vl l) (h9 : l.length ≤ 100000) (ha : c.ws.length ≤ 100000) (hc : c.cs.length ≤ 100000) (hh : c.h.size ≤ 9223372036854775807) (hs : ∀ r ∈ l, r.s.size ≤ 9223372036854775807) (p0 : -9223372036854775808 ≤ c.p) (p1 : c.p ≤ 9223372036854775807) :
    Calls Tryz.prog 12 #[kcV c va vc, vl] w fun e w' => (∃ u, e = .returned (.tuple #[u, .int .i64 (ansR c l).2]) ∧ Kls w' u (ansR c l).1) ∧ Below w.heap.size w w' := by
  unfold ansR
  by_cases c0 : 0 ≤ unI l 0
  · rw [if_pos c0]
    exact nAns_u c l va vc vl w HA HC HL h9 ha hc hh hs p0 p1 c0
  rw [if_neg c0]
  have c0' : unI l 0 < 0 := by omega
  cases c1 : (nmR l 1).2
  case false =>
    rw [if_pos (.inl rfl)]
    exact nAns_f1 c l va vc vl w HA HC HL h9 ha hc hh hs p0 p1 c0' c1
  cases c4 : (nmR l 4).2
  case false =>
    rw [if_pos (.inr rfl)]
    exact nAns_f4 c l va vc vl w HA HC HL h9 ha hc hh hs p0 p1 c0' c1 c4
  rw [if_neg (fun h => by rcases h with h | h <;> cases h)]
  cases c5 : hasB (nmR l 1).1 0
  case false =>
    rw [if_pos rfl]
    exact nAns_n0 c l va vc vl w HA HC HL h9 ha hc hh hs p0 p1 c0' c1 c4 c5
  rw [if_neg (by simp)]
  by_cases c6 : chA c.ws (nmR l 4).1 = 0
  · rw [if_pos c6]
    exact nAns_z c l va vc vl w HA HC HL h9 ha hc hh hs p0 p1 c0' c1 c4 c5 c6
  rw [if_neg c6]
  by_cases c7 : c.h.size = 0
  · by_cases c8 : c.p = 0
    · rw [if_neg (fun q => q c7), if_neg (fun q => q c8), List.append_nil, List.append_nil]
      exact nAns_m11 c l va vc vl w HA HC HL h9 ha hc hh hs p0 p1 c0' c1 c4 c5 c6 c7 c8
    · rw [if_neg (fun q => q c7), if_pos c8, List.append_nil]
      exact nAns_m10 c l va vc vl w HA HC HL h9 ha hc hh hs p0 p1 c0' c1 c4 c5 c6 c7 c8
  · by_cases c8 : c.p = 0
    · rw [if_pos c7, if_neg (fun q => q c8), List.append_nil]
      exact nAns_m01 c l va vc vl w HA HC HL h9 ha hc hh hs p0 p1 c0' c1 c4 c5 c6 c7 c8
    · rw [if_pos c7, if_pos c8]
      exact nAns_m00 c l va vc vl w HA HC HL h9 ha hc hh hs p0 p1 c0' c1 c4 c5 c6 c7 c8
end Go.Proofs.YtbhmbdkijpocmaaGreatDoor
/- The reference of nego: Same. -/
set_option linter.all false
set_option maxRecDepth 100000
namespace Go.Proofs.YtbhmbdkijpocmaaGreatDoor
open Go.RowKit Go.Shelf Go.Sort Go.Lib
theorem map_ba : ∀ (l m : List ByteArray), l.map (fun s => s.data.toList) = m.map (fun s => s.data.toList) → l = m
  | [], [], _ => rfl
  | [], _ :: _, h => by cases h
  | _ :: _, [], h => by cases h
  | a :: l, b :: m, h => by
    simp only [List.map_cons, List.cons.injEq] at h
    rw [ba_ext h.1, map_ba l m h.2]
theorem dlB_iff (x y : Dl) : dlB x y = true ↔ x.a = y.a ∧ x.h = y.h ∧ x.p = y.p ∧ x.cs = y.cs := by
  unfold dlB
  rw [Bool.and_eq_true, Bool.and_eq_true, Bool.and_eq_true, decide_eq_true_iff, decide_eq_true_iff, decide_eq_true_iff, decide_eq_true_iff]
  exact ⟨fun ⟨h1, h2, h3, h4⟩ => ⟨h1, ba_ext h2, h3, map_ba _ _ h4⟩, fun ⟨h1, h2, h3, h4⟩ => ⟨h1, by rw [h2], h3, by rw [h4]⟩⟩
theorem dlB_no {x y : Dl} (h : ¬ (x.a = y.a ∧ x.h = y.h ∧ x.p = y.p ∧ x.cs = y.cs)) : dlB x y = false := by
  cases hq : dlB x y
  · rfl
  · exact absurd ((dlB_iff x y).1 hq) h
def dlV (x : Dl) (vc : Value) : Value := .agg #[.int .i64 x.a, vc, .string x.h, .int .i64 x.p]
theorem dlC_at (a : Int) (vc : Value) (h : ByteArray) (p : Int) : ∀ j, j < 4 → (#[Value.int .i64 a, vc, .string h, .int .i64 p] : Array Value)[j]? = some (([Value.int .i64 a, vc, .string h, .int .i64 p] : List Value).getD j undef) := fun j hj => by
  match j, hj with
  | 0, _ => rfl
  | 1, _ => rfl
  | 2, _ => rfl
  | 3, _ => rfl
set_option maxHeartbeats 4000000 in
theorem nSame_any (x y : Dl) (vx vy : Value) (w : World) (HX : Sls w vx x.cs) (HY : Sls w vy y.cs) (h9 : x.cs.length ≤ 9223372036854775807) (h9' : y.cs.length ≤ 9223372036854775807) :
    Calls Tryz.prog 16 #[dlV x vx, dlV y vy] w fun e w' => e = .returned (.bool (dlB x y)) ∧ Below w.heap.size w w' := by
  have HNo : Hid (¬ (x.a = y.a ∧ x.h = y.h ∧ x.p = y.p ∧ x.cs = y.cs) → dlB x y = false) := dlB_no
  have HYes : Hid ((x.a = y.a ∧ x.h = y.h ∧ x.p = y.p ∧ x.cs = y.cs) → dlB x y = true) := (dlB_iff x y).2
  obtain ⟨a, l1, h, p⟩ := x
  obtain ⟨a2, l2, h2, p2⟩ := y
  unfold dlV
  simp only at HX HY h9 h9' HNo HYes ⊢
  generalize dlB _ _ = D at *
  have B1 := Bel.al (Below.refl w.heap.size w) (.cells #[.int .i64 a, vx, .string h, .int .i64 p] 38)
  have B2 := Bel.al B1 (.cells #[.int .i64 a2, vy, .string h2, .int .i64 p2] 38)
  have A1 := Arr.new w #[Value.int .i64 a, vx, .string h, .int .i64 p] 38 _ rfl _ 4 (dlC_at a vx h p)
  have A2 := Arr.new (w.alloc (.cells #[.int .i64 a, vx, .string h, .int .i64 p] 38)) #[Value.int .i64 a2, vy, .string h2, .int .i64 p2] 38 _ rfl _ 4 (dlC_at a2 vy h2 p2)
  have A1' := Arr.al' (n := 3) A1 (.cells #[.int .i64 a2, vy, .string h2, .int .i64 p2] 38)
  obtain ⟨a1, c1, rfl, f1⟩ := HX
  obtain ⟨b1, d1, rfl, f2⟩ := HY
  have F1 : Hid (∀ (i : Nat) (s : ByteArray), l1[i]? = some s → ∃ g o, a1 = some ⟨g, o, none⟩ ∧ g < w.heap.size ∧ w.cell? ⟨g, o + i, none⟩ = some (.string s)) := f1
  have F2 : Hid (∀ (i : Nat) (s : ByteArray), l2[i]? = some s → ∃ g o, b1 = some ⟨g, o, none⟩ ∧ g < w.heap.size ∧ w.cell? ⟨g, o + i, none⟩ = some (.string s)) := f2
  clear f1 f2 A1 B1
  by_cases k1 : a = a2
  case neg =>
    have E : Hid (D = false) := HNo.out (fun q => k1 q.1)
    clear HNo HYes F1 F2 A1' A2
    have n1 : (a != a2) = true := by simpa using k1
    go_enter Tryz.func16, Tryz.ntmps16
    go_wp2_with fail
    go_ret
    exact ⟨by rw [E.out]; rfl, B2⟩
  subst k1
  by_cases k2 : h = h2
  case neg =>
    have E : Hid (D = false) := HNo.out (fun q => k2 q.2.1)
    clear HNo HYes F1 F2 A1' A2
    have n2 := txt_ne k2
    go_enter Tryz.func16, Tryz.ntmps16
    go_wp2_with fail
    go_ret
    exact ⟨by rw [E.out]; rfl, B2⟩
  subst k2
  by_cases k3 : p = p2
  case neg =>
    have E : Hid (D = false) := HNo.out (fun q => k3 q.2.2.1)
    clear HNo HYes F1 F2 A1' A2
    have n3 : (p != p2) = true := by simpa using k3
    go_enter Tryz.func16, Tryz.ntmps16
    go_wp2_with fail
    go_ret
    exact ⟨by rw [E.out]; rfl, B2⟩
  subst k3
  by_cases k4 : l1.length = l2.length
  case neg =>
    have E : Hid (D = false) := HNo.out (fun q => k4 (by rw [q.2.2.2]))
    clear HNo HYes F1 F2 A1' A2
    have n4 : (((l1.length : Nat) : Int) != ((l2.length : Nat) : Int)) = true := by simpa using (show ¬ ((l1.length : Nat) : Int) = ((l2.length : Nat) : Int) by omega)
    go_enter Tryz.func16, Tryz.ntmps16
    go_wp2_with fail
    go_ret
    exact ⟨by rw [E.out]; rfl, B2⟩
  obtain ⟨n, hn⟩ : ∃ n, l1.length = n := ⟨_, rfl⟩
  have HN1 : Hid (l1.length = n) := hn
  have HN2 : Hid (l2.length = n) := by show _ = _; omega
  have n0 : (n : Int) ≤ 9223372036854775807 := by omega
  have HF : Hid (∀ (i : Nat) (x y : ByteArray), l1[i]? = some x → l2[i]? = some y → x ≠ y → D = false) := fun i x y h1 h2 hne => HNo.out (fun q => by
    rw [q.2.2.2, h2] at h1
    injection h1 with h1
    exact hne h1.symm)
  have HT : Hid ((∀ i : Nat, i < n → l1[i]? = l2[i]?) → D = true) := fun h => HYes.out ⟨rfl, rfl, rfl, List.ext_getElem? fun i => by
    by_cases hi : i < n
    · exact h i hi
    · rw [List.getElem?_eq_none (by omega), List.getElem?_eq_none (by omega)]⟩
  have k4' : l2.length = n := by omega
  rw [hn] at A1' B2 A2 ⊢
  rw [k4'] at A1' B2 A2 ⊢
  clear HNo HYes hn h9 h9' k4 k4'
  go_enter Tryz.func16, Tryz.ntmps16
  go_wp2_with fail
  generalize (w.alloc (.cells #[.int .i64 a, .slice a1 n c1, .string h, .int .i64 p] 38)).alloc (.cells #[.int .i64 a, .slice b1 n d1, .string h, .int .i64 p] 38) = w2 at *
  rw [World.size_alloc] at A2
  go_loopw [5] (fun i wr => ∃ j : Nat, j ≤ n ∧ i = .int .i64 (j : Int) ∧ Below w2.heap.size w2 wr ∧ Hid (∀ q : Nat, q < j → l1[q]? = l2[q]?)) (fun i _ => n - (Go.RowKit.intOf i).toNat)
  case atStart => exact ⟨0, by omega, rfl, Below.refl _ _, fun q hq => absurd hq (Nat.not_lt_zero _)⟩
  case round =>
    obtain ⟨j, hj, rfl, hB, ht⟩ := hrel
    have j0 : (0 : Int) ≤ (j : Int) := by omega
    have AX := Arr.to' (n := 3) A1' hB
    have AY := Arr.to' (n := 3) A2 hB
    have HBw : Hid (Below w.heap.size w wr) := Bel.call B2 hB
    have cx := AX.cv 1 (by omega) (.slice a1 n c1) rfl
    have cy := AY.cv 1 (by omega) (.slice b1 n d1) rfl
    clear A1' A2 AX AY
    by_cases hlt : j < n
    · have j1 : (j : Int) < (n : Int) := by omega
      obtain ⟨x, hx⟩ : ∃ m, l1[j]? = some m := ⟨_, List.getElem?_eq_getElem (by rw [HN1.out]; exact hlt)⟩
      obtain ⟨y, hy⟩ : ∃ m, l2[j]? = some m := ⟨_, List.getElem?_eq_getElem (by rw [HN2.out]; exact hlt)⟩
      obtain ⟨g1, q1, e1, lt1, r1⟩ := F1.out j x hx
      obtain ⟨g2, q2, e2, lt2, r2⟩ := F2.out j y hy
      subst e1 e2
      have x0 := (HBw.out.cell (p := ⟨g1, q1 + j, none⟩) lt1).trans r1
      have y0 := (HBw.out.cell (p := ⟨g2, q2 + j, none⟩) lt2).trans r2
      have CX := fun ds os => cell_regrown cx ds os
      have CY := fun ds os => cell_regrown cy ds os
      have X0 := fun ds os => cell_regrown x0 ds os
      have Y0 := fun ds os => cell_regrown y0 ds os
      have ht' : Hid (x = y → ∀ q : Nat, q < j + 1 → l1[q]? = l2[q]?) := fun hk q hq => by
        by_cases e : q = j
        · subst e; rw [hx, hy, hk]
        · exact ht.out q (by omega)
      have HD' : Hid (x ≠ y → D = false) := HF.out j x y hx hy
      clear r1 r2 ht hx hy HF HT F1 F2 HN1 HN2 x0 y0
      by_cases hq : x = y
      · have ht2 : Hid (∀ q : Nat, q < j + 1 → l1[q]? = l2[q]?) := ht'.out hq
        clear ht' HD'
        subst hq
        go_wp2_with fail
        refine wp_region_quiet_below (by kernel_rfl) (by kernel_rfl) ?_
        repeat (go_big_quiet_step (fail))
        refine wpQuiet_nil ?_
        intro w3 hw'
        obtain ⟨⟨dq, osq⟩, hw''⟩ := hw'
        have hb := below_of hw''
        clear hw'' X0 Y0 CX CY cx cy HBw
        have B1 := Bel.call hB hb
        go_wp2_with fail
        refine ⟨⟨j + 1, by omega, by first | rfl | (congr 1; omega) | simp, B1, ht2⟩, ?_⟩
        simp [RowKit.intOf]; omega
      · have nq := txt_ne hq
        have HD : Hid (D = false) := HD'.out hq
        clear ht' HD' hq
        go_wp2_with fail
        refine wp_region_quiet_below (by kernel_rfl) (by kernel_rfl) ?_
        repeat (go_big_quiet_step (fail))
        refine wpQuiet_nil ?_
        intro w3 hw'
        obtain ⟨⟨dq, osq⟩, hw''⟩ := hw'
        have hb := below_of hw''
        clear hw'' X0 Y0 CX CY cx cy
        have B1 := Bel.call HBw.out hb
        go_wp2_with fail
        go_ret
        exact ⟨by rw [HD.out]; rfl, B1⟩
    · have ej : j = n := by omega
      subst ej
      have HD : Hid (D = true) := HT.out ht.out
      clear ht HF HT F1 F2 HN1 HN2
      go_wp2_with fail
      go_ret
      exact ⟨by rw [HD.out]; rfl, HBw.out⟩
end Go.Proofs.YtbhmbdkijpocmaaGreatDoor
/- Arguments opened: rows of texts, a server, what a client has got. -/
set_option linter.all false
set_option maxRecDepth 100000
namespace Go.Proofs.YtbhmbdkijpocmaaGreatDoor
open Go.ChangeShapes Go.WideShapes Go.ChangeAt Go.RowKit
theorem cN1 : Tryz.prog.cellsOf 22 = 1 := by kernel_rfl
theorem cT1 : Tryz.prog.cellsOf 23 = 1 := by kernel_rfl
theorem cC4 : Tryz.prog.cellsOf 25 = 4 := by kernel_rfl
theorem cD4 : Tryz.prog.cellsOf 38 = 4 := by kernel_rfl
theorem list4 {α : Type} (l : List α) (h : l.length = 4) : ∃ a b c d, l = [a, b, c, d] := by
  match l, h with
  | [a, b, c, d], _ => exact ⟨a, b, c, d, rfl⟩
theorem collectS {W : World} (a : Addr) (len : Nat) (h : ∀ i, i < len → ∃ s : ByteArray, W.cell? (a.add i) = some (.string s) ∧ s.size ≤ maxLen) :
    ∃ l : List ByteArray, l.length = len ∧ (∀ s ∈ l, s.size ≤ maxLen) ∧ ∀ i n, l[i]? = some n → W.cell? (a.add i) = some (.string n) := by
  induction len with
  | zero => exact ⟨[], rfl, (fun m hm => by cases hm), (fun i m hm => by cases hm)⟩
  | succ n ih =>
    obtain ⟨l, hl, hc, hi⟩ := ih (fun i hi => h i (by omega))
    obtain ⟨m, h1, h3⟩ := h n (by omega)
    refine ⟨l ++ [m], by rw [List.length_append, hl]; rfl, fun x hx => ?_, fun i x hx => ?_⟩
    · rcases List.mem_append.1 hx with hx | hx
      · exact hc x hx
      · simp at hx; subst hx; exact h3
    · by_cases hin : i < l.length
      · rw [List.getElem?_append_left hin] at hx
        exact hi i x hx
      · rw [List.getElem?_append_right (by omega)] at hx
        have : i - l.length = 0 := by
          cases hq : i - l.length with
          | zero => rfl
          | succ q => rw [hq] at hx; simp at hx
        rw [this] at hx
        simp at hx
        subst hx
        have : i = n := by omega
        subst this
        exact h1
theorem open_strsC {H : Type} {enc : TypeId × Value → H} {W : World} {fuel : Nat} {v : Value} {x : DataW H × List MemPlace} (hf : DataW.trod enc Tryz.prog W 0 (fun _ => true) true fuel 23 [v] = some x) :
    ∃ l : List ByteArray, Sls W v l ∧ l.length ≤ maxLen ∧ ∀ s ∈ l, s.size ≤ maxLen := by
  rcases DataW.trod_slice Tryz.underlying23 hf with ⟨hcs, _⟩ | ⟨a, len, cap, elems, rest, n, _, hcs, hx, _, hle, hm, hlen, hel, _, _⟩
  · injection hcs with hcs _
    subst hcs
    exact ⟨[], ⟨none, 0, rfl, fun i r h => by cases h⟩, Nat.zero_le _, fun m hm => by cases hm⟩
  · injection hcs with hcs _
    subst hcs
    have each : ∀ i, i < len → ∃ s : ByteArray, W.cell? (a.add i) = some (.string s) ∧ s.size ≤ maxLen := fun i hi => by
      have h1 := hel i hi
      rw [List.getElem?_eq_getElem (by omega), cS1, Option.bind_eq_some_iff] at h1
      obtain ⟨cs, hcs, ht⟩ := h1
      obtain ⟨k, e, _, z⟩ := DataW.trod_string Tryz.underlying9 ht
      obtain ⟨_, hl, hc⟩ := World.cells?_some hcs
      have := hc 0 (by omega)
      rw [e] at this
      refine ⟨k, ?_, z⟩
      simpa [Addr.add_add] using this
    obtain ⟨l, hl, hc, hi⟩ := collectS a len each
    refine ⟨l, ⟨some a, cap, by rw [hl], fun i r him => ?_⟩, by rw [hl]; omega, hc⟩
    have h0 := hi i r him
    obtain ⟨g, o, spot⟩ := a
    have sp' : spot = none := by
      have hl0 := (List.getElem?_eq_some_iff.1 him).1
      have := World.cell?_spot (hi 0 _ (List.getElem?_eq_getElem (by omega)))
      simpa [Addr.add] using this
    subst sp'
    rw [Addr.add_mid] at h0
    exact ⟨g, o, rfl, block_lt_of_cell h0, h0⟩
theorem open_intsC {H : Type} {enc : TypeId × Value → H} {W : World} {fuel : Nat} {v : Value} {x : DataW H × List MemPlace} (hf : DataW.trod enc Tryz.prog W 0 (fun _ => true) true fuel 22 [v] = some x) :
    ∃ l : List Int, Nls W v l ∧ l.length ≤ maxLen := by
  rcases DataW.trod_slice Tryz.underlying22 hf with ⟨hcs, _⟩ | ⟨a, len, cap, elems, rest, n, _, hcs, hx, _, hle, hm, hlen, hel, _, _⟩
  · injection hcs with hcs _
    subst hcs
    exact ⟨[], Nls.nil W, Nat.zero_le _⟩
  · injection hcs with hcs _
    subst hcs
    have each : ∀ i, i < len → ∃ n : Int, W.cell? (a.add i) = some (.int .i64 n) := fun i hi => by
      have h1 := hel i hi
      rw [List.getElem?_eq_getElem (by omega), cI1, Option.bind_eq_some_iff] at h1
      obtain ⟨cs, hcs, ht⟩ := h1
      obtain ⟨k, e, _, _⟩ := DataW.trod_int Tryz.underlying3 ht
      obtain ⟨_, hl, hc⟩ := World.cells?_some hcs
      have := hc 0 (by omega)
      rw [e] at this
      refine ⟨k, ?_⟩
      simpa [Addr.add_add] using this
    obtain ⟨l, hl, hi⟩ := collectN a len each
    refine ⟨l, ⟨some a, cap, by rw [hl], fun i r him => ?_⟩, by rw [hl]; omega⟩
    have h0 := hi i r him
    obtain ⟨g, o, spot⟩ := a
    have sp' : spot = none := by
      have hl0 := (List.getElem?_eq_some_iff.1 him).1
      have := World.cell?_spot (hi 0 _ (List.getElem?_eq_getElem (by omega)))
      simpa [Addr.add] using this
    subst sp'
    rw [Addr.add_mid] at h0
    exact ⟨g, o, rfl, block_lt_of_cell h0, h0⟩
theorem open_conf {H : Type} {enc : TypeId × Value → H} {W : World} {base : Nat} {v : Value} {d : DataW H} {p : List MemPlace}
    (hv : Value.okWide Tryz.prog W .any base 25 v) (h : DataW.Trod enc Tryz.prog W 0 (fun _ => true) true 25 v d p) :
    ∃ (c : Kc) (va vc : Value), v = kcV c va vc ∧ Nls W va c.ws ∧ Sls W vc c.cs ∧ c.ws.length ≤ maxLen ∧ c.cs.length ≤ maxLen ∧ c.h.size ≤ maxLen ∧ (∀ s ∈ c.cs, s.size ≤ maxLen) ∧ -9223372036854775808 ≤ c.p ∧ c.p ≤ 9223372036854775807 := by
  obtain ⟨cs, rfl, hsz, _⟩ : ∃ cs, v = .agg cs ∧ cs.size = Tryz.prog.cellsOf 25 ∧ Row.okWide Tryz.prog W .any base 25 cs := by
    simpa [Value.okWide, Tryz.underlying25] using hv
  obtain ⟨fuel, hf⟩ := h
  obtain ⟨xs, n, _, _, hl, hlen, hf⟩ := DataW.trod_struct Tryz.underlying25 hf
  rw [cC4] at hl
  obtain ⟨a0, a1, a2, a3, e⟩ := list4 cs.toList (by simpa [Value.cells] using hl)
  obtain rfl : cs = #[a0, a1, a2, a3] := by
    cases cs
    simp only at e
    rw [e]
  match xs, hlen, hf with
  | [y0, y1, y2, y3], _, hf =>
    have f0 := hf 0 _ rfl
    have f1 := hf 1 _ rfl
    have f2 := hf 2 _ rfl
    have f3 := hf 3 _ rfl
    simp only [Value.cells, cI1, cS1, cN1, cT1, List.drop_zero, List.drop_succ_cons, List.take_succ_cons, List.take_zero, List.getElem?_cons_zero, List.getElem?_cons_succ] at f0 f1 f2 f3
    have f0' : DataW.trod enc Tryz.prog W 0 (fun _ => true) true n 22 [a0] = some y0 := f0
    have f3' : DataW.trod enc Tryz.prog W 0 (fun _ => true) true n 23 [a3] = some y3 := f3
    obtain ⟨ws, hW, z0⟩ := open_intsC f0'
    obtain ⟨s, e1, _, z1⟩ := DataW.trod_string Tryz.underlying9 f1
    obtain ⟨k, e2, _, z2⟩ := DataW.trod_int Tryz.underlying3 f2
    obtain ⟨cl, hC, z3, z4⟩ := open_strsC f3'
    have E1 : a1 = .string s := by simpa [cI1, cS1, cN1, cT1] using e1
    have E2 : a2 = .int .i64 k := by simpa [cI1, cS1, cN1, cT1] using e2
    subst E1 E2
    have b := wf64 z2
    exact ⟨⟨ws, s, k, cl⟩, a0, a3, rfl, hW, hC, z0, z3, z1, z4, b.1, b.2⟩
theorem open_deal {H : Type} {enc : TypeId × Value → H} {W : World} {base : Nat} {v : Value} {d : DataW H} {p : List MemPlace}
    (hv : Value.okWide Tryz.prog W .any base 38 v) (h : DataW.Trod enc Tryz.prog W 0 (fun _ => true) true 38 v d p) :
    ∃ (c : Dl) (vc : Value), v = dlV c vc ∧ Sls W vc c.cs ∧ c.cs.length ≤ maxLen := by
  obtain ⟨cs, rfl, hsz, _⟩ : ∃ cs, v = .agg cs ∧ cs.size = Tryz.prog.cellsOf 38 ∧ Row.okWide Tryz.prog W .any base 38 cs := by
    simpa [Value.okWide, Tryz.underlying38] using hv
  obtain ⟨fuel, hf⟩ := h
  obtain ⟨xs, n, _, _, hl, hlen, hf⟩ := DataW.trod_struct Tryz.underlying38 hf
  rw [cD4] at hl
  obtain ⟨a0, a1, a2, a3, e⟩ := list4 cs.toList (by simpa [Value.cells] using hl)
  obtain rfl : cs = #[a0, a1, a2, a3] := by
    cases cs
    simp only at e
    rw [e]
  match xs, hlen, hf with
  | [y0, y1, y2, y3], _, hf =>
    have f0 := hf 0 _ rfl
    have f1 := hf 1 _ rfl
    have f2 := hf 2 _ rfl
    have f3 := hf 3 _ rfl
    simp only [Value.cells, cI1, cS1, cN1, cT1, List.drop_zero, List.drop_succ_cons, List.take_succ_cons, List.take_zero, List.getElem?_cons_zero, List.getElem?_cons_succ] at f0 f1 f2 f3
    obtain ⟨k, e0, _, _⟩ := DataW.trod_int Tryz.underlying3 f0
    have f1' : DataW.trod enc Tryz.prog W 0 (fun _ => true) true n 23 [a1] = some y1 := f1
    obtain ⟨cl, hC, z3, _⟩ := open_strsC f1'
    obtain ⟨s, e2, _, _⟩ := DataW.trod_string Tryz.underlying9 f2
    obtain ⟨q, e3, _, _⟩ := DataW.trod_int Tryz.underlying3 f3
    have E0 : a0 = .int .i64 k := by simpa [cI1, cS1, cN1, cT1] using e0
    have E2 : a2 = .string s := by simpa [cI1, cS1, cN1, cT1] using e2
    have E3 : a3 = .int .i64 q := by simpa [cI1, cS1, cN1, cT1] using e3
    subst E0 E2 E3
    exact ⟨⟨k, cl, s, q⟩, a1, rfl, hC, z3⟩
end Go.Proofs.YtbhmbdkijpocmaaGreatDoor
/- The laws' own words: the program's contracts; awake. -/
set_option linter.all false
set_option maxRecDepth 100000
namespace Go.Proofs.YtbhmbdkijpocmaaGreatDoor
open Go.RowKit Go.Shelf Go.Sort Go.Lib
def CAs : Prop := ∀ (l : List Int) (h : ByteArray) (p : Int) (v : Value) (w : World), Nls w v l → l.length ≤ 100000 → h.size ≤ 9223372036854775807 → -9223372036854775808 ≤ p → p ≤ 9223372036854775807 →
  Calls Tryz.prog 9 #[v, .string h, .int .i64 p] w fun e w' => (∃ u, e = .returned (.tuple #[u, .int .i64 (askE l h p)]) ∧ Kls w' u (askL l h p)) ∧ Below w.heap.size w w'
def CAn : Prop := ∀ (c : Kc) (l : List Ke) (va vc vl : Value) (w : World), Nls w va c.ws → Sls w vc c.cs → Kls w vl l → l.length ≤ 100000 → c.ws.length ≤ 100000 → c.cs.length ≤ 100000 → c.h.size ≤ 9223372036854775807 → (∀ r ∈ l, r.s.size ≤ 9223372036854775807) → -9223372036854775808 ≤ c.p → c.p ≤ 9223372036854775807 →
  Calls Tryz.prog 11 #[kcV c va vc, vl] w fun e w' => (∃ u, e = .returned (.tuple #[u, .int .i64 (ansR c l).2]) ∧ Kls w' u (ansR c l).1) ∧ Below w.heap.size w w'
def CAc : Prop := ∀ (ws : List Int) (l : List Ke) (va vl : Value) (w : World), Nls w va ws → Kls w vl l → l.length ≤ 100000 → ws.length ≤ 100000 → (∀ r ∈ l, r.s.size ≤ 9223372036854775807) →
  Calls Tryz.prog 14 #[va, vl] w fun e w' => (∃ vc, e = .returned (.tuple #[dlV (accD ws l) vc, .int .i64 (accE ws l)]) ∧ Sls w' vc (accD ws l).cs) ∧ Below w.heap.size w w'
def CSm : Prop := ∀ (x y : Dl) (vx vy : Value) (w : World), Sls w vx x.cs → Sls w vy y.cs → x.cs.length ≤ 100000 → y.cs.length ≤ 100000 →
  Calls Tryz.prog 17 #[dlV x vx, dlV y vy] w fun e w' => e = .returned (.bool (dlB x y)) ∧ Below w.heap.size w w'
def CKz : Prop := ∀ (a : Int) (w : World), Calls Tryz.prog 60 #[.int .i64 a] w fun e w' => e = .returned (.int .i64 (ksI a)) ∧ Below w.heap.size w w'
/-- An end of no connection. -/
def zT : Value := .agg #[.int .i64 0, .string ⟨#[]⟩, .int .i64 0, .slice none 0 0, .slice none 0 0, .int .u64 0, .int .u64 0, .int .u64 0, .int .u64 0, .int .u64 0, .int .u64 0, .int .u64 0, .int .u64 0, .string ⟨#[]⟩, .string ⟨#[]⟩, .string ⟨#[]⟩, .string ⟨#[]⟩, .string ⟨#[]⟩, .string ⟨#[]⟩, .int .i64 0, .int .u64 0, .int .u64 0, .int .u64 0, .int .u64 0, .int .u64 0, .int .u64 0, .int .u64 0, .int .u64 0, .bool false, .string ⟨#[]⟩, .string ⟨#[]⟩, .string ⟨#[]⟩, .string ⟨#[]⟩, .string ⟨#[]⟩, .string ⟨#[]⟩, .string ⟨#[]⟩, .string ⟨#[]⟩, .string ⟨#[]⟩, .string ⟨#[]⟩, .int .u64 0, .string ⟨#[]⟩, .string ⟨#[]⟩, .int .u64 0, .int .i64 0]
def CK0 : Prop := ∀ (w : World), Calls Tryz.prog 20 #[zT, .int .i64 15] w fun e w' => e = .returned (.tuple #[.string ⟨#[]⟩, .string ⟨#[]⟩, .int .i64 14]) ∧ Below w.heap.size w w'
theorem rExp0 (w : World) : Calls Tryz.prog 21 #[zT, .string ⟨#[]⟩, .string ⟨#[]⟩, .int .i64 1] w fun e w' => e = .returned (.tuple #[.string ⟨#[]⟩, .int .i64 14]) ∧ Below w.heap.size w w' := by
  unfold zT
  go_enter Tryz.func21, Tryz.ntmps21
  go_wp2_with fail
  refine bodyPost_ret (v := .tuple #[.string ⟨#[]⟩, .int .i64 14]) (by simp [results, Tryz.results21, go_sem]) rfl ⟨rfl, by go_grown⟩
theorem Kls.grown {w W W' : World} {v : Value} {l : List Ke} {row : Option Nat} (h : Kls w v l) (hb : Below w.heap.size w W) (hg : W.grownBy W' row) (hr : ∀ r, row = some r → w.heap.size ≤ r) : Kls W' v l := by
  obtain ⟨a, c, e, f⟩ := h
  refine ⟨a, c, e, fun i r hi => ?_⟩
  obtain ⟨g, o, e1, lt, c3⟩ := f i r hi
  obtain ⟨q0, q1, q2⟩ := c3.to lt hb
  have ltW := Nat.lt_of_lt_of_le lt hb.size
  have bl : W'.heap[g]? = W.heap[g]? := hg.block g ltW (fun e => by have := hr g e.symm; omega)
  exact ⟨g, o, e1, Nat.lt_of_lt_of_le ltW hg.size, (World.cell?_of_block (a := ⟨g, _, none⟩) bl).trans q0, (World.cell?_of_block (a := ⟨g, _, none⟩) bl).trans q1, (World.cell?_of_block (a := ⟨g, _, none⟩) bl).trans q2⟩
theorem Sls.nil' (w : World) : Sls w (.slice none 0 0) [] := ⟨none, 0, rfl, fun i r h => by cases h⟩
theorem aw_a : askE [15] ⟨#[]⟩ 0 = 0 := by decide
theorem aw_l : askL [15] ⟨#[]⟩ 0 = askK [15] := (ask_0 [15] aw_a).1
def ckS : ByteArray := ⟨#[99, 111, 111, 107]⟩
theorem aw_c : chA [17, 15] [15] = 15 := by decide
theorem aw_1 : ansR ⟨[17, 15], ⟨#[]⟩, 0, [ckS]⟩ (askK [15]) = (okK 15 [ckS], 15) := by
  rw [ans_ask ⟨[17, 15], ⟨#[]⟩, 0, [ckS]⟩ [15] (by decide) (by decide) rfl rfl]
  show (if chA [17, 15] [15] = 0 then _ else (okK (chA [17, 15] [15]) [ckS], chA [17, 15] [15])) = _
  rw [aw_c]
  rfl
theorem aw_2 : ansR ⟨[], ⟨#[]⟩, 0, []⟩ (⟨true, 99, ⟨#[]⟩⟩ :: askK [15]) = ([⟨true, 2, tw 0⟩, endK], 0) := by
  unfold ansR
  rw [if_pos (by decide)]
theorem nls_new (W : World) (l : List Int) : Nls (W.alloc (.cells (l.map (Value.int .i64)).toArray 3)) (.slice (some ⟨W.heap.size, 0, none⟩) l.length l.length) l := by
  refine ⟨_, l.length, rfl, fun i n hi => ⟨W.heap.size, 0, rfl, by simp, ?_⟩⟩
  have := news_new W (l.map (Value.int .i64)) 3 i (.int .i64 n) (by rw [List.getElem?_map, hi]; rfl)
  rwa [Addr.add_mid] at this
theorem sls_new (W : World) (l : List ByteArray) : Sls (W.alloc (.cells (l.map Value.string).toArray 9)) (.slice (some ⟨W.heap.size, 0, none⟩) l.length l.length) l := by
  refine ⟨_, l.length, rfl, fun i n hi => ⟨W.heap.size, 0, rfl, by simp, ?_⟩⟩
  have := news_new W (l.map Value.string) 9 i (.string n) (by rw [List.getElem?_map, hi]; rfl)
  rwa [Addr.add_mid] at this
theorem flK_of (l : List Ke) : ∀ (j : Nat) (u : Value), (flK l)[j]? = some u → ∃ i r, l[i]? = some r ∧ ((j = i * 3 ∧ u = .bool r.c) ∨ (j = i * 3 + 1 ∧ u = .int .i64 r.k) ∨ (j = i * 3 + 2 ∧ u = .string r.s)) := by
  induction l with
  | nil => intro j u h; cases h
  | cons r l ih =>
    intro j u h
    match j, h with
    | 0, h => exact ⟨0, r, rfl, .inl ⟨rfl, by simpa [flK] using h.symm⟩⟩
    | 1, h => exact ⟨0, r, rfl, .inr (.inl ⟨rfl, by simpa [flK] using h.symm⟩)⟩
    | 2, h => exact ⟨0, r, rfl, .inr (.inr ⟨rfl, by simpa [flK] using h.symm⟩)⟩
    | j + 3, h =>
      obtain ⟨i, q, h1, h2⟩ := ih j u (by simpa [flK] using h)
      refine ⟨i + 1, q, h1, ?_⟩
      rcases h2 with ⟨a, b⟩ | ⟨a, b⟩ | ⟨a, b⟩
      · exact .inl ⟨by omega, b⟩
      · exact .inr (.inl ⟨by omega, b⟩)
      · exact .inr (.inr ⟨by omega, b⟩)
/-- The cells of a row of records, one behind the other. -/
theorem Kls.cells {W : World} {ad : Addr} {n c : Nat} {l : List Ke} (h : Kls W (.slice (some ad) n c) l) : ∀ j u, (flK l)[j]? = some u → W.cell? (ad.add j) = some u := by
  obtain ⟨a, c', e, f⟩ := h
  injection e with e1 e2 e3
  subst e1
  intro j u hj
  obtain ⟨i, r, h1, h2⟩ := flK_of l j u hj
  obtain ⟨g, o, e4, _, q0, q1, q2⟩ := f i r h1
  injection e4 with e4
  subst e4
  rw [Addr.add_mid]
  rcases h2 with ⟨rfl, rfl⟩ | ⟨rfl, rfl⟩ | ⟨rfl, rfl⟩
  · exact q0
  · rw [← Nat.add_assoc]; exact q1
  · rw [← Nat.add_assoc]; exact q2
theorem flK_one (l : List Ke) : ∀ u ∈ flK l, u.oneCell' = true := by
  induction l with
  | nil => intro u h; cases h
  | cons r l ih =>
    intro u h
    simp only [flK, List.mem_cons] at h
    rcases h with rfl | rfl | rfl | h
    · rfl
    · rfl
    · rfl
    · exact ih u h
set_option maxHeartbeats 2000000 in
theorem awake_any (CA : CAs) (CN : CAn) (CK : CK0) (w : World) : Calls Tryz.prog 8 #[] w fun e w' => e = .returned (.bool true) ∧ Below w.heap.size w w' := by
  obtain ⟨iK, hi, hz0, hz1, hz2⟩ := info_parts Tryz.infoK
  have C1 := fun (W : World) v h => CA [15] ⟨#[]⟩ 0 v W h (by decide) (by decide) (by decide) (by decide)
  rw [aw_a, aw_l] at C1
  have C2 := fun (W : World) va vc vl h1 h2 h3 => CN ⟨[17, 15], ⟨#[]⟩, 0, [ckS]⟩ (askK [15]) va vc vl W h1 h2 h3 (by decide) (by decide) (by decide) (by decide) (by decide) (by decide) (by decide)
  rw [aw_1] at C2
  have C3 := fun (W : World) va vc vl h1 h2 h3 => CN ⟨[], ⟨#[]⟩, 0, []⟩ (⟨true, 99, ⟨#[]⟩⟩ :: askK [15]) va vc vl W h1 h2 h3 (by decide) (by decide) (by decide) (by decide) (by decide) (by decide) (by decide)
  rw [aw_2] at C3
  unfold kcV at C2 C3
  simp only at C2 C3
  clear CA CN
  have K1 := nls_new w [15]
  have B1 := Bel.al (Below.refl w.heap.size w) (.cells #[.int .i64 15] 3)
  go_enter Tryz.func8, Tryz.ntmps8
  go_wp2_with fail
  refine (C1 _ _ K1).mono ?_
  rintro e w1 ⟨⟨u1, rfl, k1⟩, b1⟩
  replace B1 := Bel.call B1 b1
  clear C1 K1 b1
  obtain ⟨n3, hn3⟩ : ∃ n, (askK [15]).length = n := ⟨_, rfl⟩
  have K2 := nls_new w1 [17, 15]
  have K3 := sls_new (w1.alloc (.cells ([17, 15].map (Value.int .i64)).toArray 3)) [ckS]
  have b2 := Bel.al (Bel.al (Below.refl w1.heap.size w1) (.cells ([17, 15].map (Value.int .i64)).toArray 3)) (.cells ([ckS].map Value.string).toArray 9)
  replace K2 := K2.to (Bel.al (Below.refl _ _) (.cells ([ckS].map Value.string).toArray 9))
  have k1' := k1.to b2
  rw [World.size_alloc] at K3
  go_wp2_with fail
  refine (C2 _ _ _ _ K2 K3 k1').mono ?_
  rintro e w2 ⟨⟨u2, rfl, k2⟩, b2'⟩
  have B2 := Bel.call (Bel.call B1 b2) b2'
  have k1'' := k1'.to b2'
  clear C2 K2 K3 k1 k1' b2 b2' B1 hn3 n3
  have hu1 : ∃ g o c, u1 = .slice (some ⟨g, o, none⟩) 3 c := by
    obtain ⟨a, c, e, f⟩ := k1''
    obtain ⟨g, o, e1, _⟩ := f 0 _ rfl
    exact ⟨g, o, c, by rw [e, e1]; rfl⟩
  obtain ⟨g, o, c, rfl⟩ := hu1
  have O3 := own_newK w2 [⟨true, 99, ⟨#[]⟩⟩] B2.size (by decide)
  have B3 := Bel.al B2 (.cells (flK [⟨true, 99, ⟨#[]⟩⟩]).toArray 50)
  have KC := (k1''.to (Bel.al (Below.refl _ w2) (.cells (flK [⟨true, 99, ⟨#[]⟩⟩]).toArray 50))).cells
  clear k1''
  go_wp2_with (at_builtin; refine stopAt ?_)
  unfold Stop
  refine wpList_append_own _ rfl _ _ 26 rfl w.heap.size 50 iK (.agg #[.bool false, .int .i64 0, .string ⟨#[]⟩]) 3 32 Tryz.underlying26 hi hz0 hz1 hz2 rfl (by decide) _ _ _ rfl O3 ⟨g, o, none⟩ 3 c (flK (askK [15])) rfl rfl KC (flK_one _) (by unfold maxLen; decide) (by decide) B3.size ?_
  intro v3 x3 ho3 hg3 hn3
  have k3 : Kls x3 v3 (⟨true, 99, ⟨#[]⟩⟩ :: askK [15]) := Kls.own (b := w.heap.size) ho3
  have B4 : Below w.heap.size w x3 := B3.grown hg3 B3.size (fun q hq => (O3.lt q hq).1)
  have kk2 : Hid (Kls x3 u2 (okK 15 [ckS])) := k2.grown (Bel.al (Below.refl _ w2) _) hg3 (fun r e => by rw [← Option.some.inj (show some w2.heap.size = some r from e)]; exact Nat.le_refl _)
  clear k2
  clear hg3 ho3 hn3 O3 KC B2
  obtain ⟨a3, c3, rfl⟩ : ∃ a c, v3 = .slice a (⟨true, 99, ⟨#[]⟩⟩ :: askK [15] : List Ke).length c := by obtain ⟨a, c, e, _⟩ := k3; exact ⟨a, c, e⟩
  go_wp2_with fail
  refine (C3 _ _ _ _ (Nls.nil _) (Sls.nil' _) k3).mono ?_
  rintro e w4 ⟨⟨u4, rfl, k4⟩, b4⟩
  have B5 := Bel.call B4 b4
  have kk2' := kk2.out.to b4
  clear C3 k3 b4 B4 kk2
  have CK' := CK w4
  have CE := fun W => rExp0 W
  unfold zT at CK' CE
  clear CK
  go_wp2_with fail
  refine CK'.mono ?_
  rintro e w5 ⟨rfl, b5⟩
  replace B5 := Bel.call B5 b5
  replace k4 := k4.to b5
  replace kk2' := kk2'.to b5
  clear CK' b5
  go_wp2_with fail
  refine (CE _).mono ?_
  rintro e w6 ⟨rfl, b6⟩
  replace B5 := Bel.call B5 b6
  replace k4 := k4.to b6
  replace kk2' := kk2'.to b6
  clear CE b6
  obtain ⟨a4, c4, rfl, f4⟩ := k4
  obtain ⟨g4, o4, e4, _, p0, p1, p2⟩ := f4 0 _ rfl
  subst e4
  obtain ⟨a2, c2, rfl, f2⟩ := kk2'
  obtain ⟨g2, o2, e2, _, r0, r1, r2⟩ := f2 2 ⟨false, 5, ckS⟩ rfl
  subst e2
  have ht : tw 0 = ⟨#[0, 0]⟩ := rfl
  rw [ht] at p2
  simp only [Nat.zero_mul, Nat.add_zero] at p1 p2
  have hl : (okK 15 [ckS]).length = 4 := rfl
  unfold ckS at r2
  clear f4 f2 p0 r0 r1 ht
  rw [hl]
  go_wp2_with fail
  go_ret
  exact ⟨rfl, B5⟩
end Go.Proofs.YtbhmbdkijpocmaaGreatDoor
/- The program nego: numbersOf, liked, refusal, granted. -/
set_option linter.all false
set_option maxRecDepth 100000
namespace Go.Proofs.YtbhmbdkijpocmaaGreatDoor
open Go.RowKit Go.Shelf Go.Sort
theorem i64_and16 (n : Int) : bits .and .i64 n 65535 = n % 65536 := by
  show IntKind.i64.wrap ((BitVec.ofInt 64 n &&& BitVec.ofInt 64 65535).toNat : Int) = _
  have h : ((BitVec.ofInt 64 n &&& BitVec.ofInt 64 65535).toNat : Int) = n % 65536 := by
    rw [BitVec.toNat_and, show (BitVec.ofInt 64 65535).toNat = 2 ^ 16 - 1 by decide, Nat.and_two_pow_sub_one_eq_mod, BitVec.toNat_ofInt]
    omega
  rw [h, IntKind.wrap_i64]
  omega
theorem pair1 (n : Int) (h0 : 0 ≤ n) (h1 : n ≤ 65535) (W : World) : Calls Tryz.prog 29 #[.slice (some ⟨W.heap.size, 0, none⟩) 1 1] (W.alloc (.cells #[.int .i64 n] 3)) fun e w' => e = .returned (.string (tw n)) ∧ Below W.heap.size W w' := by
  rw [(twL_in n h0 h1).1]
  exact (ppaired_any [n] _ _ (nls_new W [n]) (by simp)).mono fun e w' ⟨a, b⟩ => ⟨a, Bel.call (Bel.al (Below.refl _ _) _) b⟩
set_option maxHeartbeats 2000000 in
theorem pnumbersOf_any (l : List Ke) (kd : Int) (v : Value) (w : World) (H : Kls w v l) (h9 : l.length ≤ 100000) (hs : ∀ r ∈ l, r.s.size ≤ 9223372036854775807) :
    Calls Tryz.prog 39 #[v, .int .i64 kd] w fun e w' => (∃ u, e = .returned (.tuple #[u, .bool (nmR l kd).2]) ∧ Nls w' u (nmR l kd).1) ∧ Below w.heap.size w w' := by
  have C1 := tF l kd v w H h9
  have hfl := fdL_len l kd
  have hm : ∀ r, fdL l kd = [r] → r.s.size ≤ 9223372036854775807 := fun r e => hs r (List.mem_filter.1 (show r ∈ fdL l kd by rw [e]; exact List.mem_singleton.2 rfl)).1
  obtain ⟨a, c, rfl, _⟩ := H
  by_cases h1 : (fdL l kd).length = 1
  case neg =>
    rw [(nm_0 l kd h1).1]
    have i1 : (((fdL l kd).length : Int) == 1) = false := by simpa using (show ¬ ((fdL l kd).length : Int) = 1 by omega)
    have i3 : (((fdL l kd).length : Int) != 1) = true := by simpa using (show ¬ ((fdL l kd).length : Int) = 1 by omega)
    have i2 : ((fdL l kd).length : Int) ≤ 100000 := by omega
    clear hm hfl
    go_enter Tryz.func39, Tryz.ntmps39
    go_wp2_with fail
    refine C1.mono ?_
    rintro e w1 ⟨⟨u, rfl, k1⟩, b1⟩
    obtain ⟨a1, c1, rfl, _⟩ := k1
    clear C1
    generalize ((fdL l kd).length : Nat) = m at *
    go_wp2_with fail
    refine bodyPost_ret (v := .tuple #[.slice none 0 0, .bool false]) (by simp [results, Tryz.results39, go_sem]) rfl ⟨⟨_, rfl, Nls.nil _⟩, b1⟩
  obtain ⟨r, hr⟩ := one_of _ h1
  have hrs := hm r hr
  rw [nm_1 l kd r hr]
  rw [hr] at C1
  have C2 := fun W => tT r.s W hrs
  clear hm h1 hfl
  cases hc : r.c
  · rw [if_neg (by decide)]
    go_enter Tryz.func39, Tryz.ntmps39
    go_wp2_with fail
    refine C1.mono ?_
    rintro e w1 ⟨⟨u, rfl, k1⟩, b1⟩
    obtain ⟨a1, c1, rfl, f1⟩ := k1
    obtain ⟨g, o, rfl, lt, r0, r1, r2⟩ := f1 0 r rfl
    rw [hc, Nat.zero_mul, Nat.add_zero] at r0
    clear C1 f1 r1 r2
    go_wp2_with fail
    refine bodyPost_ret (v := .tuple #[.slice none 0 0, .bool false]) (by simp [results, Tryz.results39, go_sem]) rfl ⟨⟨_, rfl, Nls.nil _⟩, b1⟩
  · rw [if_pos rfl]
    have tl := tp_len r.s
    have z : 0 < (tpR r.s).length → tpE r.s.size = 0 := fun h => by
      unfold tpR at h
      split at h
      · assumption
      · exact absurd h (by decide)
    generalize tpE r.s.size = E at *
    generalize tpR r.s = T at *
    go_enter Tryz.func39, Tryz.ntmps39
    go_wp2_with fail
    refine C1.mono ?_
    rintro e w1 ⟨⟨u, rfl, k1⟩, b1⟩
    obtain ⟨a1, c1, rfl, f1⟩ := k1
    obtain ⟨g, o, rfl, lt, r0, r1, r2⟩ := f1 0 r rfl
    rw [hc, Nat.zero_mul, Nat.add_zero] at r0
    rw [Nat.zero_mul, Nat.add_zero] at r2
    clear C1 f1 r1
    go_wp2_with fail
    refine (C2 _).mono ?_
    rintro e w2 ⟨⟨u2, rfl, k2⟩, b2⟩
    have B2 := Bel.call b1 b2
    obtain ⟨a2, c2, rfl, f2⟩ := k2
    have K2 : Hid (Nls w2 (.slice a2 T.length c2) T) := ⟨a2, c2, rfl, f2⟩
    clear C2 f2 b1 b2
    by_cases hE : E = 0
    · subst hE
      by_cases hT : 0 < T.length
      · have i0 : (0 : Int) < (T.length : Int) := by omega
        have ED : Hid (decide (0 < T.length) = true) := decide_eq_true hT
        clear z
        go_wp2_with fail
        refine bodyPost_ret (v := .tuple #[.slice a2 T.length c2, .bool true]) (by simp [results, Tryz.results39, go_sem]) rfl ⟨⟨_, by rw [ED.out], K2.out⟩, B2⟩
      · have i0 : T.length = 0 := by omega
        have ED : Hid (decide (0 < T.length) = false) := decide_eq_false hT
        clear z hT
        have KZ : Hid (Nls w2 (.slice a2 0 c2) T) := by have := K2.out; rwa [i0] at this
        rw [i0]
        go_wp2_with fail
        refine bodyPost_ret (v := .tuple #[.slice a2 0 c2, .bool false]) (by simp [results, Tryz.results39, go_sem]) rfl ⟨⟨_, by rw [ED.out], KZ.out⟩, B2⟩
    · have iE : (E == 0) = false := by simpa using hE
      have ED : Hid (decide (0 < T.length) = false) := decide_eq_false fun h => hE (z h)
      clear z
      go_wp2_with fail
      refine bodyPost_ret (v := .tuple #[.slice a2 T.length c2, .bool false]) (by simp [results, Tryz.results39, go_sem]) rfl ⟨⟨_, by rw [ED.out], K2.out⟩, B2⟩
set_option maxHeartbeats 2000000 in
theorem pliked_any (ws N4 : List Int) (va vn : Value) (w : World) (HA : Nls w va ws) (HN4 : Nls w vn N4) (ha : ws.length ≤ 100000) (hn4 : N4.length ≤ 100000) :
    Calls Tryz.prog 41 #[va, vn] w fun e w' => e = .returned (.int .i64 (chA ws N4)) ∧ w' = w := by
  have CHA := fun x => pContains_any N4 x vn w HN4 (by omega)
  have CKA := fun x => pKeySize_any x w
  obtain ⟨an, cn, rfl, _⟩ := HN4
  obtain ⟨aa, ca, rfl, fa⟩ := HA
  obtain ⟨n, hn⟩ : ∃ n, ws.length = n := ⟨_, rfl⟩
  have HN : Hid (ws.length = n) := hn
  have n0 : (n : Int) ≤ 100000 := by omega
  have FA : Hid (∀ (i : Nat) (m : Int), ws[i]? = some m → ∃ g o, aa = some ⟨g, o, none⟩ ∧ g < w.heap.size ∧ w.cell? ⟨g, o + i, none⟩ = some (.int .i64 m)) := fa
  obtain ⟨X, hX⟩ : ∃ X, chA ws N4 = X := ⟨_, rfl⟩
  have HX : Hid (chA ws N4 = X) := hX
  rw [hn, hX]
  clear fa hn hX ha
  generalize hq : (N4.length : Nat) = mN at *
  clear hq
  go_enter Tryz.func41, Tryz.ntmps41
  go_wp2_with fail
  go_loop [9] (fun i => ∃ (j : Nat), j ≤ n ∧ i = .int .i64 (j : Int) ∧ Hid (chA (ws.take j) N4 = 0)) (fun i => n - (RowKit.intOf i).toNat)
  case atStart => exact ⟨0, by omega, rfl, rfl⟩
  case round =>
    obtain ⟨j, hj, rfl, hY⟩ := hrel
    have j0 : (0 : Int) ≤ (j : Int) := by omega
    by_cases hlt : j < n
    · have j1 : (j : Int) < (n : Int) := by omega
      obtain ⟨x, hx⟩ : ∃ x, ws[j]? = some x := ⟨_, List.getElem?_eq_getElem (by rw [HN.out]; exact hlt)⟩
      obtain ⟨g, o, rfl, lt, e0⟩ := FA.out j x hx
      have ht := ch_take ws N4 j x hx
      rw [hY.out, if_pos rfl] at ht
      have CK := CKA x
      have CH2 := CHA x
      by_cases hk : 0 < ksI x
      · cases hh2 : hasB N4 x
        · rw [hh2, if_neg (fun q => by simp at q)] at ht
          rw [hh2] at CH2
          have HT : Hid (chA (ws.take (j + 1)) N4 = 0) := ht
          clear ht hx FA HN hY hh2 CHA CKA HX
          generalize ksI x = ks at *
          go_wp2_with fail
          refine CK.mono ?_
          rintro e w8 ⟨rfl, rfl⟩
          go_wp2_with fail
          refine CH2.mono ?_
          rintro e w8 ⟨rfl, rfl⟩
          go_wp2_with fail
          exact ⟨⟨j + 1, by omega, by go_num, HT⟩, by simp [RowKit.intOf]; omega⟩
        · rw [if_pos ⟨hk, hh2⟩] at ht
          rw [hh2] at CH2
          have nz : x ≠ 0 := fun e => by rw [e] at hk; exact absurd hk (by decide)
          have HT : Hid (x = X) := by
            have := ch_end ws N4 (j + 1) (by rw [ht]; exact nz)
            rw [ht] at this
            exact this.symm.trans HX.out
          clear ht hx FA HN hY hh2 CHA CKA HX nz
          generalize ksI x = ks at *
          go_wp2_with fail
          refine CK.mono ?_
          rintro e w8 ⟨rfl, rfl⟩
          go_wp2_with fail
          refine CH2.mono ?_
          rintro e w8 ⟨rfl, rfl⟩
          go_wp2_with fail
          go_ret
          exact ⟨by rw [← HT.out]; rfl, rfl⟩
      · rw [if_neg (fun q => hk q.1)] at ht
        have HT : Hid (chA (ws.take (j + 1)) N4 = 0) := ht
        clear ht hx FA HN hY CHA CKA CH2 HX
        generalize ksI x = ks at *
        go_wp2_with fail
        refine CK.mono ?_
        rintro e w8 ⟨rfl, rfl⟩
        go_wp2_with fail
        exact ⟨⟨j + 1, by omega, by go_num, HT⟩, by simp [RowKit.intOf]; omega⟩
    · have ej : j = n := by omega
      subst ej
      have : ws.take j = ws := List.take_of_length_le (by rw [HN.out]; omega)
      have HT : Hid (X = 0) := by show _ = _; rw [← HX.out, ← this]; exact hY.out
      clear this hY FA HN CHA CKA HX
      go_wp2_with fail
      go_ret
      exact ⟨by rw [HT.out]; rfl, rfl⟩
theorem pend_any (w : World) : Calls Tryz.prog 31 #[] w fun e w' => e = .returned (.agg #[.bool true, .int .i64 0, .string ⟨#[]⟩]) ∧ Below w.heap.size w w' := by
  have C := fun W => pmust_any 0 ⟨#[]⟩ W
  go_enter Tryz.func31, Tryz.ntmps31
  go_wp2_with fail
  refine (C _).mono ?_
  rintro e w1 ⟨rfl, b1⟩
  have A1 := Arr.to' (n := 2) (Arr.new w #[Value.bool false, .int .i64 0, .string ⟨#[]⟩] 50 _ rfl _ 3 (keC_at ⟨false, 0, ⟨#[]⟩⟩)) b1
  have B1 := Bel.call (Bel.al (Below.refl w.heap.size w) (.cells #[.bool false, .int .i64 0, .string ⟨#[]⟩] 50)) b1
  clear C b1
  have A2 := ((A1.set 0 (by omega) (.bool true)).set 1 (by omega) (.int .i64 0)).set 2 (by omega) (.string ⟨#[]⟩)
  have c0 := A2.cv 0 (by omega) (.bool true) rfl
  have c1 := A2.cv 1 (by omega) (.int .i64 0) rfl
  have c2 := A2.cv 2 (by omega) (.string ⟨#[]⟩) rfl
  have B2 : Below w.heap.size w (((w1.setCell ⟨w.heap.size, 0, none⟩ (.bool true)).setCell ⟨w.heap.size, 1, none⟩ (.int .i64 0)).setCell ⟨w.heap.size, 2, none⟩ (.string ⟨#[]⟩)) := ((B1.setCell (p := ⟨w.heap.size, 0, none⟩) (Nat.le_refl _) _).setCell (p := ⟨w.heap.size, 1, none⟩) (Nat.le_refl _) _).setCell (p := ⟨w.heap.size, 2, none⟩) (Nat.le_refl _) _
  have d0 := A1.cv 0 (by omega) (.bool false) rfl
  have d1 := A1.cv 1 (by omega) (.int .i64 0) rfl
  have d2 := A1.cv 2 (by omega) (.string ⟨#[]⟩) rfl
  have z0 := A1.z 0 (by omega)
  have z1 := A1.z 1 (by omega)
  have z2 := A1.z 2 (by omega)
  clear A2
  have BH : Hid _ := B2
  clear B2 B1
  go_wp2_with fail
  refine bodyPost_ret (v := .agg #[.bool true, .int .i64 0, .string ⟨#[]⟩]) (by simp [results, Tryz.results31, go_sem, c0, c1, c2]) rfl ⟨rfl, BH.out⟩
set_option maxHeartbeats 1000000 in
theorem prefusal_any (n : Int) (h0 : 0 ≤ n) (h1 : n ≤ 65535) (w : World) : Calls Tryz.prog 38 #[.int .i64 n] w fun e w' => (∃ v, e = .returned v ∧ Kls w' v [⟨true, 2, tw n⟩, endK]) ∧ Below w.heap.size w w' := by
  have C1 := fun W => pair1 n h0 h1 W
  have C2 := fun W => pmust_any 2 (tw n) W
  have C3 := fun W => pend_any W
  unfold endK
  generalize tw n = T at *
  have KN := fun (W : World) => Kls.own (own_newK W [⟨true, 2, T⟩, ⟨true, 0, ⟨#[]⟩⟩] (Nat.zero_le _) (by simp))
  go_enter Tryz.func38, Tryz.ntmps38
  go_wp2_with fail
  refine (C1 _).mono ?_
  rintro e w1 ⟨rfl, b1⟩
  clear C1
  go_wp2_with fail
  refine (C2 _).mono ?_
  rintro e w2 ⟨rfl, b2⟩
  clear C2
  go_wp2_with fail
  refine (C3 _).mono ?_
  rintro e w3 ⟨rfl, b3⟩
  have B3 := Bel.call (Bel.call b1 b2) b3
  clear C3 b1 b2 b3
  have K2 : Hid _ := KN w3
  clear KN
  go_wp2_with fail
  go_ret
  exact ⟨⟨_, rfl, K2.out⟩, Bel.al B3 _⟩
end Go.Proofs.YtbhmbdkijpocmaaGreatDoor
/- The program nego: slices.Equal over rows of texts. -/
set_option linter.all false
set_option maxRecDepth 100000
namespace Go.Proofs.YtbhmbdkijpocmaaGreatDoor
open Go.RowKit Go.Sort Go.Shelf
set_option maxHeartbeats 4000000 in
theorem pEqual_any (u v : Value) (l1 l2 : List ByteArray) (n9 : l1.length ≤ 9223372036854775807) (w : World) (hu : Sls w u l1) (hv : Sls w v l2) :
    Calls Tryz.prog 59 #[u, v] w fun e w' => e = .returned (.bool (decide (l1 = l2))) ∧ Below w.heap.size w w' := by
  obtain ⟨a0, c, rfl, f1⟩ := hu
  obtain ⟨b0, c', rfl, f2⟩ := hv
  by_cases hl : l1.length = l2.length
  · obtain ⟨r, hr⟩ : ∃ r : Bool, r = decide (l1 = l2) := ⟨_, rfl⟩
    rw [← hr]
    have HD : Hid (r = decide (l1 = l2)) := hr
    have HD1 : Hid _ := f1
    have HD2 : Hid _ := f2
    rw [← hl]
    have HL2 : Hid (l2.length = l1.length) := hl.symm
    have HL1 : Hid (l1.length = l1.length) := rfl
    clear hr f1 f2 hl
    generalize hn : l1.length = n at *
    have HN : Hid (l1.length = n) := hn
    clear hn HL1
    go_enter Tryz.func59, Tryz.ntmps59
    go_wp2_with fail
    go_loopw [13] (fun i wr => ∃ j : Nat, j ≤ n ∧ i = .int .i64 (j : Int) ∧ Below w.heap.size w wr ∧ Hid (l1.take j = l2.take j)) (fun i _ => n - (Go.RowKit.intOf i).toNat)
    case atStart => exact ⟨0, by omega, rfl, Below.refl _ _, by show _ = _; rw [List.take_zero, List.take_zero]⟩
    case round =>
      obtain ⟨j, hj, rfl, hB, ht⟩ := hrel
      have j0 : (0 : Int) ≤ (j : Int) := by omega
      by_cases hlt : j < n
      · have j1 : (j : Int) < (n : Int) := by omega
        obtain ⟨s, hs⟩ : ∃ s, l1[j]? = some s := ⟨_, List.getElem?_eq_getElem (by rw [HN.out]; exact hlt)⟩
        obtain ⟨t, hu⟩ : ∃ t, l2[j]? = some t := ⟨_, List.getElem?_eq_getElem (by rw [HL2.out]; exact hlt)⟩
        obtain ⟨b, o, hb, _, g1⟩ := HD1.out j s hs
        obtain ⟨b', o', hb', _, g2⟩ := HD2.out j t hu
        replace g1 := (hB.cell (block_lt_of_cell g1)).trans g1
        replace g2 := (hB.cell (block_lt_of_cell g2)).trans g2
        subst hb hb'
        have r2 := fun ds os => cell_regrown g1 ds os
        have r3 := fun ds os => cell_regrown g2 ds os
        by_cases hst : s = t
        · subst hst
          have HT : Hid (l1.take (j + 1) = l2.take (j + 1)) := by
            show _ = _
            rw [List.take_add_one, List.take_add_one, ht.out, hs, hu]
          clear hs hu ht
          go_wp2_with fail
          refine wp_region_quiet_below (by kernel_rfl) (by kernel_rfl) ?_
          repeat (go_big_quiet_step (fail))
          refine wpQuiet_nil ?_
          intro w3 hw'
          obtain ⟨⟨dq, osq⟩, hw''⟩ := hw'
          have hb3 := below_of hw''
          clear hw''
          go_wp2_with fail
          exact ⟨⟨j + 1, by omega, by go_num, Bel.call hB hb3, HT⟩, by simp [Go.RowKit.intOf]; omega⟩
        · have h2 := txt_ne hst
          have er : r = false := by
            rw [HD.out]
            refine decide_eq_false fun e => hst ?_
            rw [e, hu] at hs
            exact (Option.some.inj hs).symm
          subst er
          clear hs hu ht hst
          go_wp2_with fail
          refine wp_region_quiet_below (by kernel_rfl) (by kernel_rfl) ?_
          repeat (go_big_quiet_step (fail))
          refine wpQuiet_nil ?_
          intro w3 hw'
          obtain ⟨⟨dq, osq⟩, hw''⟩ := hw'
          have hb3 := below_of hw''
          clear hw''
          go_wp2_with fail
          go_ret
          exact ⟨rfl, Bel.call hB hb3⟩
      · have j1 : ¬ (j : Int) < (n : Int) := by omega
        have er : r = true := by
          rw [HD.out]
          refine decide_eq_true ?_
          have := ht.out
          rwa [List.take_of_length_le (by rw [HN.out]; omega), List.take_of_length_le (by rw [HL2.out]; omega)] at this
        subst er
        clear ht
        go_wp2_with fail
        go_ret
        exact ⟨rfl, hB⟩
  · have hl2 : ¬ ((l1.length : Nat) : Int) = ((l2.length : Nat) : Int) := by omega
    have hl3 : (((l1.length : Nat) : Int) == ((l2.length : Nat) : Int)) = false := by simpa using hl2
    rw [decide_eq_false (fun e => hl (by rw [e]))]
    clear f1 f2
    go_enter Tryz.func59, Tryz.ntmps59
    go_wp2_with fail
    go_ret
    exact ⟨rfl, Below.refl _ _⟩
end Go.Proofs.YtbhmbdkijpocmaaGreatDoor
/- The program nego: Same, as the laws want it. -/
set_option linter.all false
set_option maxRecDepth 100000
namespace Go.Proofs.YtbhmbdkijpocmaaGreatDoor
open Go.RowKit Go.Shelf Go.Sort
set_option maxHeartbeats 4000000 in
theorem tM : CSm := by
  intro x y vx vy w HX HY h9 h9'
  have HNo : Hid (¬ (x.a = y.a ∧ x.h = y.h ∧ x.p = y.p ∧ x.cs = y.cs) → dlB x y = false) := dlB_no
  have HYes : Hid ((x.a = y.a ∧ x.h = y.h ∧ x.p = y.p ∧ x.cs = y.cs) → dlB x y = true) := (dlB_iff x y).2
  obtain ⟨a, l1, h, p⟩ := x
  obtain ⟨a2, l2, h2, p2⟩ := y
  unfold dlV
  simp only at HX HY h9 h9' HNo HYes ⊢
  generalize dlB _ _ = D at *
  have B1 := Bel.al (Below.refl w.heap.size w) (.cells #[.int .i64 a, vx, .string h, .int .i64 p] 38)
  have B2 := Bel.al B1 (.cells #[.int .i64 a2, vy, .string h2, .int .i64 p2] 38)
  have A1 := Arr.new w #[Value.int .i64 a, vx, .string h, .int .i64 p] 38 _ rfl _ 4 (dlC_at a vx h p)
  have A2 := Arr.new (w.alloc (.cells #[.int .i64 a, vx, .string h, .int .i64 p] 38)) #[Value.int .i64 a2, vy, .string h2, .int .i64 p2] 38 _ rfl _ 4 (dlC_at a2 vy h2 p2)
  have A1' := Arr.al' (n := 3) A1 (.cells #[.int .i64 a2, vy, .string h2, .int .i64 p2] 38)
  have C := pEqual_any vx vy l1 l2 (by omega) _ (HX.to B2) (HY.to B2)
  obtain ⟨a1, c1, rfl, _⟩ := HX
  obtain ⟨b1, d1, rfl, _⟩ := HY
  clear B1 A1
  generalize l1.length = n1 at *
  generalize l2.length = n2 at *
  by_cases k1 : a = a2
  case neg =>
    have E : Hid (D = false) := HNo.out (fun q => k1 q.1)
    clear HNo HYes C A1' A2
    have q1 : (a == a2) = false := by simpa using k1
    go_enter Tryz.func17, Tryz.ntmps17
    go_wp2_with fail
    go_ret
    exact ⟨by rw [E.out]; rfl, B2⟩
  subst k1
  by_cases k4 : l1 = l2
  case neg =>
    have E : Hid (D = false) := HNo.out (fun q => k4 q.2.2.2)
    rw [decide_eq_false k4] at C
    clear HNo HYes k4 A1' A2
    go_enter Tryz.func17, Tryz.ntmps17
    go_wp2_with fail
    refine C.mono ?_
    rintro e w3 ⟨rfl, b3⟩
    have B3 := Bel.call B2 b3
    clear C B2 b3
    go_wp2_with fail
    go_ret
    exact ⟨by rw [E.out]; rfl, B3⟩
  rw [decide_eq_true k4] at C
  by_cases k2 : h = h2
  case neg =>
    have E : Hid (D = false) := HNo.out (fun q => k2 q.2.1)
    have q2 := txt_ne k2
    clear HNo HYes k4 k2
    go_enter Tryz.func17, Tryz.ntmps17
    go_wp2_with fail
    refine C.mono ?_
    rintro e w3 ⟨rfl, b3⟩
    have B3 := Bel.call B2 b3
    have AX := Arr.to' (n := 3) A1' b3
    have AY := Arr.to' (n := 3) A2 b3
    rw [World.size_alloc] at AY
    have x2 := AX.cv 2 (by omega) (.string h) rfl
    have y2 := AY.cv 2 (by omega) (.string h2) rfl
    clear C B2 b3 AX AY A1' A2
    go_wp2_with fail
    go_ret
    exact ⟨by rw [E.out]; rfl, B3⟩
  subst k2
  by_cases k3 : p = p2
  case neg =>
    have E : Hid (D = false) := HNo.out (fun q => k3 q.2.2.1)
    have q3 : (p == p2) = false := by simpa using k3
    clear HNo HYes k4 k3
    go_enter Tryz.func17, Tryz.ntmps17
    go_wp2_with fail
    refine C.mono ?_
    rintro e w3 ⟨rfl, b3⟩
    have B3 := Bel.call B2 b3
    have AX := Arr.to' (n := 3) A1' b3
    have AY := Arr.to' (n := 3) A2 b3
    rw [World.size_alloc] at AY
    have x2 := AX.cv 2 (by omega) (.string h) rfl
    have y2 := AY.cv 2 (by omega) (.string h) rfl
    have x3 := AX.cv 3 (by omega) (.int .i64 p) rfl
    have y3 := AY.cv 3 (by omega) (.int .i64 p2) rfl
    clear C B2 b3 AX AY A1' A2
    go_wp2_with fail
    go_ret
    exact ⟨by rw [E.out]; rfl, B3⟩
  subst k3
  have E : Hid (D = true) := HYes.out ⟨rfl, rfl, rfl, k4⟩
  clear HNo HYes k4
  go_enter Tryz.func17, Tryz.ntmps17
  go_wp2_with fail
  refine C.mono ?_
  rintro e w3 ⟨rfl, b3⟩
  have B3 := Bel.call B2 b3
  have AX := Arr.to' (n := 3) A1' b3
  have AY := Arr.to' (n := 3) A2 b3
  rw [World.size_alloc] at AY
  have x2 := AX.cv 2 (by omega) (.string h) rfl
  have y2 := AY.cv 2 (by omega) (.string h) rfl
  have x3 := AX.cv 3 (by omega) (.int .i64 p) rfl
  have y3 := AY.cv 3 (by omega) (.int .i64 p) rfl
  clear C B2 b3 AX AY A1' A2
  go_wp2_with fail
  go_ret
  exact ⟨by rw [E.out]; rfl, B3⟩
end Go.Proofs.YtbhmbdkijpocmaaGreatDoor
