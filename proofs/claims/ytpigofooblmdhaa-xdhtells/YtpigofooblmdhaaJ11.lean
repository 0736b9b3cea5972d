/- What the reference's Parse answers at a text of 64 bytes. -/
import Derived.Test.YtpigofooblmdhaaJ10
set_option linter.all false
set_option maxRecDepth 100000
namespace Go.Proofs.Ytpigofooblmdhaa
open Go.RowKit
def Stop (p : Prop) : Prop := p
theorem stopAt {p : Prop} (h : Stop p) : p := h
theorem own_form {W : World} {b n : Nat} {v : Value} {xs : List Value} (h : W.ownsRow b 5 1 v n xs) : ∃ ao c, v = .slice ao n c := by
  rcases h.2 with ⟨h, h0⟩ | ⟨g, c, _, h, _⟩
  · exact ⟨none, 0, by rw [h, h0]⟩
  · exact ⟨_, c, h⟩
theorem own_some {W : World} {b n : Nat} {v : Value} {xs : List Value} (h : W.ownsRow b 5 1 v n xs) (hn : n ≠ 0) : ∃ g c, v = .slice (some ⟨g, 0, none⟩) n c := by
  rcases h.2 with ⟨_, h⟩ | ⟨g, c, _, h, _⟩
  · exact absurd h hn
  · exact ⟨g, c, h⟩
theorem one_new (W : World) (x : Value) (e : TypeId) : ∀ (j : Nat) (u : Value), ([x] : List Value)[j]? = some u → (W.alloc (.cells #[x] e)).cell? ((⟨W.heap.size, 0, none⟩ : Addr).add j) = some u := by
  intro j u h
  rw [Addr.add_mid]
  have hj : j < 1 := (List.getElem?_eq_some_iff.1 h).1
  have hc : j = 0 := by omega
  subst hc; simp at h; subst h; simp [go_sem]
set_option maxHeartbeats 1200000 in
theorem refParse_core (s : ByteArray) (hs : s.size = 64) (a0 a1 a2 a3 : Int)
    (C11 : ∀ W, Calls Try.prog 11 #[.string (mkS (pr s 32))] W fun e w' => e = .returned (.tuple #[.agg #[.int .u64 a0, .int .u64 a1, .int .u64 a2, .int .u64 a3], .int .i64 0]) ∧ Below W.heap.size W w') (w : World) :
    Calls Try.prog 9 #[.string s] w fun e w' => ((alld s 64 ∧ e = .returned (.tuple #[.agg #[.int .u64 a0, .int .u64 a1, .int .u64 a2, .int .u64 a3], .int .i64 0])) ∨
      (¬ alld s 64 ∧ e = .returned (.tuple #[.agg #[.int .u64 0, .int .u64 0, .int .u64 0, .int .u64 0], .int .i64 10]))) ∧ Below w.heap.size w w' := by
  have LE := fun W => sized_any s 64 (by rw [hs]; decide) W
  have le0 : lenE (s.size : Int) 64 = 0 := by rw [hs]; decide
  rw [le0] at LE
  obtain ⟨i0, hi, hz0, hz1, hz2⟩ := info_parts Try.info5
  go_enter Try.func9, Try.ntmps9
  go_wp2_with (go_at_call 51; refine (LE _).mono ?_; rintro e w1 ⟨rfl, rfl⟩)
  go_loopw [4, 5, 6] (fun e v i wr => ∃ (k m : Nat) (L : List Value), m = 2 * k ∧ k ≤ 32 ∧ i = .int .i64 m ∧ wr.ownsRow (w.heap.size + 1) 5 1 v k L ∧ w.heap.size < wr.heap.size ∧ Below w.heap.size w wr ∧ Arr wr w.heap.size 4 (fun _ => .int .u64 0) ∧
      ((e = .int .i64 0 ∧ alld s m ∧ L = (pr s k).map (Value.int .u8)) ∨ (e = .int .i64 10 ∧ ¬ alld s 64)))
    (fun _ _ i _ => 64 - (intOf i).toNat)
  case atStart => exact ⟨0, 0, [], rfl, by omega, rfl, World.ownsRow_nil _ _ _ _, by go_size, by go_grown, Arr.mk4 (by simp [go_sem]) (by simp [go_sem]) (by simp [go_sem]) (by simp [go_sem]) (by simp [go_sem]) (by simp [go_sem]) (by simp [go_sem]) (by simp [go_sem]), .inl ⟨rfl, fun i h => by omega, rfl⟩⟩
  case round =>
    clear LE le0
    obtain ⟨k, m, L, hm, hk, rfl, hown, hsz, hB, hZ, hc⟩ := hrel
    rcases hc with ⟨rfl, hall, hL⟩ | ⟨rfl, hno⟩
    · by_cases hlt : k < 32
      · have m0 : (0 : Int) ≤ (m : Int) := by omega
        have m64 : (m : Int) + 1 < (s.size : Int) := by omega
        have m65 : (m : Int) + 1 < 64 := by omega
        have I0 := fun W => idxS s m (by omega) W
        have I1 := fun W => idxS s (m + 1) (by omega) W
        rw [show (((m + 1 : Nat)) : Int) = (m : Int) + 1 by omega] at I1
        have D0 := fun W => digit_ref (bt s m) (bt_bd s m).1 (bt_bd s m).2 W
        have D1 := fun W => digit_ref (bt s (m + 1)) (bt_bd s (m + 1)).1 (bt_bd s (m + 1)).2 W
        obtain ⟨ao, cv, hv⟩ := own_form hown
        subst hv
        have hnext : ∀ (x : Value) (v' : Value) (w3 : World), w3.ownsRow (w.heap.size + 1) 5 1 v' (k + 1) (L ++ [x]) → (wr.alloc (.cells #[x] 5)).grownBy w3 (Value.ownBlock (.slice ao k cv)) →
            w3.ownsRow (w.heap.size + 1) 5 1 v' (k + 1) (L ++ [x]) ∧ w.heap.size < w3.heap.size ∧ Below w.heap.size w w3 ∧ Arr w3 w.heap.size 4 (fun _ => .int .u64 0) := by
          intro x v' w3 ho hg
          have b3 : Below (w.heap.size + 1) wr w3 := ((Below.refl _ _).alloc (by omega) _).grown hg (by go_size) (fun q hq => (hown.lt q hq).1)
          exact ⟨ho, by have := b3.size; omega, hB.trans (b3.mono (by omega)), hZ.below b3 (by omega)⟩
        by_cases hd : dgo (bt s m) = true ∧ dgo (bt s (m + 1)) = true
        · rw [dgi_yes _ hd.1] at D0
          rw [dgi_yes _ hd.2] at D1
          have hall' : alld s (m + 2) := fun i h => by
            by_cases e : i = m
            · subst e; exact hd.1
            · by_cases e1 : i = m + 1
              · subst e1; exact hd.2
              · exact hall i (by omega)
          have hx := dg_4 s m
          have hy := dg_4 s (m + 1)
          have nx := pr_next s k
          rw [← hm, ← hL] at nx
          unfold dg at hx hy nx
          generalize dgv (bt s m) = x at *
          generalize dgv (bt s (m + 1)) = y at *
          generalize bt s m = c0 at *
          generalize bt s (m + 1) = c1 at *
          have HM : Hid (m = 2 * k) := hm
          have HX : Hid ((pr s (k + 1)).map (Value.int .u8) = L ++ [.int .u8 (16 * x + y)]) := nx
          have HA : Hid (alld s (m + 2)) := hall'
          have x0 : 0 ≤ x ∧ x < 16 := by simpa using hx
          have y0 : 0 ≤ y ∧ y < 16 := by simpa using hy
          obtain ⟨x0, x1⟩ := x0
          obtain ⟨y0, y1⟩ := y0
          have wq : IntKind.u8.wrap (16 * x + y) = 16 * x + y := by rw [IntKind.wrap_u8]; omega
          have xn : ¬ x < 0 := by omega
          have yn : ¬ y < 0 := by omega
          have kb : k + 1 ≤ maxLen := by unfold maxLen; omega
          have kb2 : (k + 1) * 1 ≤ 140737488355328 := by omega
          have sb : ∀ ob, w.heap.size + 1 ≤ (wr.alloc ob).heap.size := fun ob => by simp; omega
          have HO : Hid (wr.ownsRow (w.heap.size + 1) 5 1 (.slice ao k cv) k L) := hown
          clear nx hall hall' hx hy hL hd hm C11 hZ hs hB
          go_wp2_with fail
          refine (D0 _).mono ?_
          rintro e w1 ⟨rfl, rfl⟩
          clear D0 I0
          go_wp2_with fail
          refine (D1 _).mono ?_
          rintro e w1 ⟨rfl, rfl⟩
          clear D1 I1
          go_wp2_with (at_builtin; refine stopAt ?_)
          unfold Stop
          refine wpList_append_own _ rfl _ _ 43 rfl (w.heap.size + 1) 5 i0 (.int .u8 0) 1 1 Try.underlying43 hi hz0 hz1 hz2 rfl (by decide) _ _ _ rfl (World.ownsRow.alloc HO.out _) ⟨_, 0, none⟩ 1 1 [.int .u8 (16 * x + y)] rfl rfl (one_new _ _ _) (fun u hu => by simp at hu; subst hu; rfl) kb kb2 (sb _) ?_
          intro v' w3 hown' hgrow3 hnil3
          have nxt := hnext _ _ _ hown' hgrow3
          clear hnext hnil3 hown' hgrow3
          go_wp2_with fail
          go_roundw
          case rel => exact ⟨k + 1, m + 2, _, by have := HM.out; omega, by omega, by go_num, nxt.1, nxt.2.1, nxt.2.2.1, nxt.2.2.2, .inl ⟨rfl, HA.out, HX.out.symm⟩⟩
          case measure => simp [intOf]; omega
        · have HNo : Hid (¬ alld s 64) := fun h => hd ⟨h m (by omega), h (m + 1) (by omega)⟩
          have xr : ∀ c : Int, (dgo c = true ∧ 0 ≤ dgi c ∧ dgi c < 16) ∨ (¬ dgo c = true ∧ dgi c = -1) := fun c => by
            by_cases h : dgo c = true
            · refine .inl ⟨h, ?_⟩
              rw [dgi_yes c h]; unfold dgv; split
              · omega
              · split <;> omega
            · exact .inr ⟨h, dgi_no c h⟩
          have x0 := xr (bt s m)
          have y0 := xr (bt s (m + 1))
          have xy : dgi (bt s m) < 0 ∨ dgi (bt s (m + 1)) < 0 := by
            rcases x0 with ⟨h, _⟩ | ⟨_, h⟩
            · rcases y0 with ⟨h2, _⟩ | ⟨_, h2⟩
              · exact absurd ⟨h, h2⟩ hd
              · right; omega
            · left; omega
          have x1 : -1 ≤ dgi (bt s m) ∧ dgi (bt s m) < 16 := by rcases x0 with ⟨_, h⟩ | ⟨_, h⟩ <;> omega
          have y1 : -1 ≤ dgi (bt s (m + 1)) ∧ dgi (bt s (m + 1)) < 16 := by rcases y0 with ⟨_, h⟩ | ⟨_, h⟩ <;> omega
          generalize dgi (bt s m) = x at *
          generalize dgi (bt s (m + 1)) = y at *
          generalize bt s m = c0 at *
          generalize bt s (m + 1) = c1 at *
          have HM : Hid (m = 2 * k) := hm
          obtain ⟨x0', x1⟩ := x1
          obtain ⟨y0', y1⟩ := y1
          have xyb : (decide (x < 0) || decide (y < 0)) = true := by simp [xy]
          have kb : k + 1 ≤ maxLen := by unfold maxLen; omega
          have kb2 : (k + 1) * 1 ≤ 140737488355328 := by omega
          have sb : ∀ ob, w.heap.size + 1 ≤ (wr.alloc ob).heap.size := fun ob => by simp; omega
          have HO : Hid (wr.ownsRow (w.heap.size + 1) 5 1 (.slice ao k cv) k L) := hown
          clear hall hL hd hm C11 hZ hs hB xr x0 y0 xy
          go_wp2_with fail
          refine (D0 _).mono ?_
          rintro e w1 ⟨rfl, rfl⟩
          clear D0 I0
          go_wp2_with fail
          refine (D1 _).mono ?_
          rintro e w1 ⟨rfl, rfl⟩
          clear D1 I1
          go_wp2_with (at_builtin; refine stopAt ?_)
          all_goals
            unfold Stop
            refine wpList_append_own _ rfl _ _ 43 rfl (w.heap.size + 1) 5 i0 (.int .u8 0) 1 1 Try.underlying43 hi hz0 hz1 hz2 rfl (by decide) _ _ _ rfl (World.ownsRow.alloc HO.out _) ⟨_, 0, none⟩ 1 1 [_] rfl rfl (one_new _ _ _) (fun u hu => by simp at hu; subst hu; rfl) kb kb2 (sb _) ?_
            intro v' w3 hown' hgrow3 hnil3
            have nxt := hnext _ _ _ hown' hgrow3
            clear hnext hnil3 hown' hgrow3
            go_wp2_with fail
            go_roundw
            case rel => exact ⟨k + 1, m + 2, _, by have := HM.out; omega, by omega, by go_num, nxt.1, nxt.2.1, nxt.2.2.1, nxt.2.2.2, .inr ⟨rfl, HNo.out⟩⟩
            case measure => simp [intOf]; omega
      · have e32 : k = 32 := by omega
        subst e32
        have e64 : m = 64 := by omega
        subst e64
        subst hL
        obtain ⟨g, c, hv⟩ := own_some hown (by omega)
        subst hv
        have cv := convC wr g 32 c (pr s 32) (by simp [pr]) (World.ownsRow.cells hown rfl)
        have HA : Hid (alld s 64) := hall
        generalize mkS (pr s 32) = T at *
        have mn : ¬ ((64 : Int) + 1 < (s.size : Int)) := by omega
        clear hown hall hm
        go_wp2_with fail
        refine (C11 _).mono ?_
        rintro e w2 ⟨rfl, hb2⟩
        have A2 := hZ.below hb2 hsz
        have hB2 := hB.trans (hb2.mono hB.size)
        have r0 := A2.c
        have z0 := A2.z
        clear hb2 A2 hZ hB C11 cv
        go_wp2_with fail
        refine bodyPost_ret (v := .tuple #[.agg #[.int .u64 a0, .int .u64 a1, .int .u64 a2, .int .u64 a3], .int .i64 0]) (by simp [results, Try.results9, go_sem, r0]) rfl ⟨.inl ⟨HA.out, rfl⟩, ?_⟩
        go_grown
    · have r0 := hZ.c
      have z0 := hZ.z
      have HNo : Hid (¬ alld s 64) := hno
      clear hZ hno C11 hown
      go_wp2_with fail
      all_goals
        refine bodyPost_ret (v := .tuple #[.agg #[.int .u64 0, .int .u64 0, .int .u64 0, .int .u64 0], .int .i64 10]) (by simp [results, Try.results9, go_sem, r0]) rfl ⟨.inr ⟨HNo.out, rfl⟩, ?_⟩
        go_grown
theorem pr_8 (s : ByteArray) (j : Nat) : 0 ≤ 16 * dg s (2 * j) + dg s (2 * j + 1) ∧ 16 * dg s (2 * j) + dg s (2 * j + 1) < 256 := by
  have h := dg_4 s (2 * j)
  have h2 := dg_4 s (2 * j + 1)
  simp at h h2
  omega
theorem refParse_64 (s : ByteArray) (hs : s.size = 64) (w : World) :
    Calls Try.prog 9 #[.string s] w fun e w' => ((alld s 64 ∧ e = .returned (.tuple #[nv (pn 4 (dg s) 64), .int .i64 0])) ∨
      (¬ alld s 64 ∧ e = .returned (.tuple #[.agg #[.int .u64 0, .int .u64 0, .int .u64 0, .int .u64 0], .int .i64 10]))) ∧ Below w.heap.size w w' := by
  refine refParse_core s hs _ _ _ _ (fun W => ?_) w
  have := refFromBig_yes (mkS (pr s 32)) (by rw [mkS_size]; simp [pr]) W
  have e : pn 8 (bt (mkS (pr s 32))) 32 = pn 4 (dg s) 64 := by
    rw [show (64 : Nat) = 2 * 32 from rfl, ← pn_pair]
    refine pn_congr 8 _ _ 32 fun i hi => ?_
    exact mkS_bt _ i _ (by simp [pr, hi]) (pr_8 s i).1 (pr_8 s i).2
  rw [e] at this
  exact this
end Go.Proofs.Ytpigofooblmdhaa
