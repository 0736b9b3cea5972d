/- PROVED: the function pendulumlaw03.XdhCurve answers true for every input, and each argument reads behind the call as it read before; no condition. -/
import Derived.Laws.MathBits
import Derived.Laws.BitsAllLaws
import Derived.Test.YtpigofooblmdhaaGreatJ2
import Derived.Test.YtpigofooblmdhaaGreatJ1
import Derived.Test.YtpigofooblmdhaaGreatX3
import Derived.Test.YtpigofooblmdhaaGreatX4
import Derived.Test.YtpigofooblmdhaaGreatZ3
import Derived.Test.YtpigofooblmdhaaGreatR3
import Derived.Test.YtpigofooblmdhaaGreatN19
import Derived.Test.YtpigofooblmdhaaGreatF0
/- What the reference's Parse answers at a text of 64 bytes. -/
set_option linter.all false
set_option maxRecDepth 100000
namespace Go.Proofs.YtpigofooblmdhaaGreat
open Go.RowKit
def Stop (p : Prop) : Prop := p
theorem stopAt {p : Prop} (h : Stop p) : p := h
theorem own_form {W : World} {b n : Nat} {v : Value} {xs : List Value} (h : W.ownsRow b 5 1 v n xs) : ∃ ao c, v = .slice ao n c := by
  rcases h.2 with ⟨h, h0⟩ | ⟨g, c, _, h, _⟩
  · exact ⟨none, 0, by rw [h, h0]⟩
  · exact ⟨_, c, h⟩
theorem own_some {W : World} {b n : Nat} {v : Value} {xs : List Value} (h : W.ownsRow b 5 1 v n xs) (hn : n ≠ 0) : ∃ g c, v = .slice (some ⟨g, 0, none⟩) n c := by
  rcases h.2 with ⟨_, h⟩ | ⟨g, c, _, h, _⟩
  · exact absurd h hn
  · exact ⟨g, c, h⟩
theorem one_new (W : World) (x : Value) (e : TypeId) : ∀ (j : Nat) (u : Value), ([x] : List Value)[j]? = some u → (W.alloc (.cells #[x] e)).cell? ((⟨W.heap.size, 0, none⟩ : Addr).add j) = some u := by
  intro j u h
  rw [Addr.add_mid]
  have hj : j < 1 := (List.getElem?_eq_some_iff.1 h).1
  have hc : j = 0 := by omega
  subst hc; simp at h; subst h; simp [go_sem]
set_option maxHeartbeats 1200000 in
theorem refParse_core (s : ByteArray) (hs : s.size = 64) (a0 a1 a2 a3 : Int)
    (C11 : ∀ W, Calls Tryz.prog 70 #[.string (mkS (pr s 32))] W fun e w' => e = .returned (.tuple #[.agg #[.int .u64 a0, .int .u64 a1, .int .u64 a2, .int .u64 a3], .int .i64 0]) ∧ Below W.heap.size W w') (w : World) :
    Calls Tryz.prog 45 #[.string s] w fun e w' => ((alld s 64 ∧ e = .returned (.tuple #[.agg #[.int .u64 a0, .int .u64 a1, .int .u64 a2, .int .u64 a3], .int .i64 0])) ∨
      (¬ alld s 64 ∧ e = .returned (.tuple #[.agg #[.int .u64 0, .int .u64 0, .int .u64 0, .int .u64 0], .int .i64 10]))) ∧ Below w.heap.size w w' := by
  have LE := fun W => sized_any s 64 (by rw [hs]; decide) W
  have le0 : lenE (s.size : Int) 64 = 0 := by rw [hs]; decide
  rw [le0] at LE
  obtain ⟨i0, hi, hz0, hz1, hz2⟩ := info_parts Tryz.info5
  go_enter Tryz.func45, Tryz.ntmps45
  go_wp2_with (go_at_call 64; refine (LE _).mono ?_; rintro e w1 ⟨rfl, rfl⟩)
  go_loopw [4, 5, 6] (fun e v i wr => ∃ (k m : Nat) (L : List Value), m = 2 * k ∧ k ≤ 32 ∧ i = .int .i64 m ∧ wr.ownsRow (w.heap.size + 1) 5 1 v k L ∧ w.heap.size < wr.heap.size ∧ Below w.heap.size w wr ∧ Arr wr w.heap.size 4 (fun _ => .int .u64 0) ∧
      ((e = .int .i64 0 ∧ alld s m ∧ L = (pr s k).map (Value.int .u8)) ∨ (e = .int .i64 10 ∧ ¬ alld s 64)))
    (fun _ _ i _ => 64 - (intOf i).toNat)
  case atStart => exact ⟨0, 0, [], rfl, by omega, rfl, World.ownsRow_nil _ _ _ _, by go_size, by go_grown, Arr.mk4 (by simp [go_sem]) (by simp [go_sem]) (by simp [go_sem]) (by simp [go_sem]) (by simp [go_sem]) (by simp [go_sem]) (by simp [go_sem]) (by simp [go_sem]), .inl ⟨rfl, fun i h => by omega, rfl⟩⟩
  case round =>
    clear LE le0
    obtain ⟨k, m, L, hm, hk, rfl, hown, hsz, hB, hZ, hc⟩ := hrel
    rcases hc with ⟨rfl, hall, hL⟩ | ⟨rfl, hno⟩
    · by_cases hlt : k < 32
      · have m0 : (0 : Int) ≤ (m : Int) := by omega
        have m64 : (m : Int) + 1 < (s.size : Int) := by omega
        have m65 : (m : Int) + 1 < 64 := by omega
        have I0 := fun W => idxS s m (by omega) W
        have I1 := fun W => idxS s (m + 1) (by omega) W
        rw [show (((m + 1 : Nat)) : Int) = (m : Int) + 1 by omega] at I1
        have D0 := fun W => digit_ref (bt s m) (bt_bd s m).1 (bt_bd s m).2 W
        have D1 := fun W => digit_ref (bt s (m + 1)) (bt_bd s (m + 1)).1 (bt_bd s (m + 1)).2 W
        obtain ⟨ao, cv, hv⟩ := own_form hown
        subst hv
        have hnext : ∀ (x : Value) (v' : Value) (w3 : World), w3.ownsRow (w.heap.size + 1) 5 1 v' (k + 1) (L ++ [x]) → (wr.alloc (.cells #[x] 5)).grownBy w3 (Value.ownBlock (.slice ao k cv)) →
            w3.ownsRow (w.heap.size + 1) 5 1 v' (k + 1) (L ++ [x]) ∧ w.heap.size < w3.heap.size ∧ Below w.heap.size w w3 ∧ Arr w3 w.heap.size 4 (fun _ => .int .u64 0) := by
          intro x v' w3 ho hg
          have b3 : Below (w.heap.size + 1) wr w3 := ((Below.refl _ _).alloc (by omega) _).grown hg (by go_size) (fun q hq => (hown.lt q hq).1)
          exact ⟨ho, by have := b3.size; omega, hB.trans (b3.mono (by omega)), hZ.below b3 (by omega)⟩
        by_cases hd : dgo (bt s m) = true ∧ dgo (bt s (m + 1)) = true
        · rw [dgi_yes _ hd.1] at D0
          rw [dgi_yes _ hd.2] at D1
          have hall' : alld s (m + 2) := fun i h => by
            by_cases e : i = m
            · subst e; exact hd.1
            · by_cases e1 : i = m + 1
              · subst e1; exact hd.2
              · exact hall i (by omega)
          have hx := dg_4 s m
          have hy := dg_4 s (m + 1)
          have nx := pr_next s k
          rw [← hm, ← hL] at nx
          unfold dg at hx hy nx
          generalize dgv (bt s m) = x at *
          generalize dgv (bt s (m + 1)) = y at *
          generalize bt s m = c0 at *
          generalize bt s (m + 1) = c1 at *
          have HM : Hid (m = 2 * k) := hm
          have HX : Hid ((pr s (k + 1)).map (Value.int .u8) = L ++ [.int .u8 (16 * x + y)]) := nx
          have HA : Hid (alld s (m + 2)) := hall'
          have x0 : 0 ≤ x ∧ x < 16 := by simpa using hx
          have y0 : 0 ≤ y ∧ y < 16 := by simpa using hy
          obtain ⟨x0, x1⟩ := x0
          obtain ⟨y0, y1⟩ := y0
          have wq : IntKind.u8.wrap (16 * x + y) = 16 * x + y := by rw [IntKind.wrap_u8]; omega
          have xn : ¬ x < 0 := by omega
          have yn : ¬ y < 0 := by omega
          have kb : k + 1 ≤ maxLen := by unfold maxLen; omega
          have kb2 : (k + 1) * 1 ≤ 140737488355328 := by omega
          have sb : ∀ ob, w.heap.size + 1 ≤ (wr.alloc ob).heap.size := fun ob => by simp; omega
          have HO : Hid (wr.ownsRow (w.heap.size + 1) 5 1 (.slice ao k cv) k L) := hown
          clear nx hall hall' hx hy hL hd hm C11 hZ hs hB
          go_wp2_with fail
          refine (D0 _).mono ?_
          rintro e w1 ⟨rfl, rfl⟩
          clear D0 I0
          go_wp2_with fail
          refine (D1 _).mono ?_
          rintro e w1 ⟨rfl, rfl⟩
          clear D1 I1
          go_wp2_with (at_builtin; refine stopAt ?_)
          unfold Stop
          refine wpList_append_own _ rfl _ _ 53 rfl (w.heap.size + 1) 5 i0 (.int .u8 0) 1 1 Tryz.underlying53 hi hz0 hz1 hz2 rfl (by decide) _ _ _ rfl (World.ownsRow.alloc HO.out _) ⟨_, 0, none⟩ 1 1 [.int .u8 (16 * x + y)] rfl rfl (one_new _ _ _) (fun u hu => by simp at hu; subst hu; rfl) kb kb2 (sb _) ?_
          intro v' w3 hown' hgrow3 hnil3
          have nxt := hnext _ _ _ hown' hgrow3
          clear hnext hnil3 hown' hgrow3
          go_wp2_with fail
          go_roundw
          case rel => exact ⟨k + 1, m + 2, _, by have := HM.out; omega, by omega, by go_num, nxt.1, nxt.2.1, nxt.2.2.1, nxt.2.2.2, .inl ⟨rfl, HA.out, HX.out.symm⟩⟩
          case measure => simp [intOf]; omega
        · have HNo : Hid (¬ alld s 64) := fun h => hd ⟨h m (by omega), h (m + 1) (by omega)⟩
          have xr : ∀ c : Int, (dgo c = true ∧ 0 ≤ dgi c ∧ dgi c < 16) ∨ (¬ dgo c = true ∧ dgi c = -1) := fun c => by
            by_cases h : dgo c = true
            · refine .inl ⟨h, ?_⟩
              rw [dgi_yes c h]; unfold dgv; split
              · omega
              · split <;> omega
            · exact .inr ⟨h, dgi_no c h⟩
          have x0 := xr (bt s m)
          have y0 := xr (bt s (m + 1))
          have xy : dgi (bt s m) < 0 ∨ dgi (bt s (m + 1)) < 0 := by
            rcases x0 with ⟨h, _⟩ | ⟨_, h⟩
            · rcases y0 with ⟨h2, _⟩ | ⟨_, h2⟩
              · exact absurd ⟨h, h2⟩ hd
              · right; omega
            · left; omega
          have x1 : -1 ≤ dgi (bt s m) ∧ dgi (bt s m) < 16 := by rcases x0 with ⟨_, h⟩ | ⟨_, h⟩ <;> omega
          have y1 : -1 ≤ dgi (bt s (m + 1)) ∧ dgi (bt s (m + 1)) < 16 := by rcases y0 with ⟨_, h⟩ | ⟨_, h⟩ <;> omega
          generalize dgi (bt s m) = x at *
          generalize dgi (bt s (m + 1)) = y at *
          generalize bt s m = c0 at *
          generalize bt s (m + 1) = c1 at *
          have HM : Hid (m = 2 * k) := hm
          obtain ⟨x0', x1⟩ := x1
          obtain ⟨y0', y1⟩ := y1
          have xyb : (decide (x < 0) || decide (y < 0)) = true := by simp [xy]
          have kb : k + 1 ≤ maxLen := by unfold maxLen; omega
          have kb2 : (k + 1) * 1 ≤ 140737488355328 := by omega
          have sb : ∀ ob, w.heap.size + 1 ≤ (wr.alloc ob).heap.size := fun ob => by simp; omega
          have HO : Hid (wr.ownsRow (w.heap.size + 1) 5 1 (.slice ao k cv) k L) := hown
          clear hall hL hd hm C11 hZ hs hB xr x0 y0 xy
          go_wp2_with fail
          refine (D0 _).mono ?_
          rintro e w1 ⟨rfl, rfl⟩
          clear D0 I0
          go_wp2_with fail
          refine (D1 _).mono ?_
          rintro e w1 ⟨rfl, rfl⟩
          clear D1 I1
          go_wp2_with (at_builtin; refine stopAt ?_)
          all_goals
            unfold Stop
            refine wpList_append_own _ rfl _ _ 53 rfl (w.heap.size + 1) 5 i0 (.int .u8 0) 1 1 Tryz.underlying53 hi hz0 hz1 hz2 rfl (by decide) _ _ _ rfl (World.ownsRow.alloc HO.out _) ⟨_, 0, none⟩ 1 1 [_] rfl rfl (one_new _ _ _) (fun u hu => by simp at hu; subst hu; rfl) kb kb2 (sb _) ?_
            intro v' w3 hown' hgrow3 hnil3
            have nxt := hnext _ _ _ hown' hgrow3
            clear hnext hnil3 hown' hgrow3
            go_wp2_with fail
            go_roundw
            case rel => exact ⟨k + 1, m + 2, _, by have := HM.out; omega, by omega, by go_num, nxt.1, nxt.2.1, nxt.2.2.1, nxt.2.2.2, .inr ⟨rfl, HNo.out⟩⟩
            case measure => simp [intOf]; omega
      · have e32 : k = 32 := by omega
        subst e32
        have e64 : m = 64 := by omega
        subst e64
        subst hL
        obtain ⟨g, c, hv⟩ := own_some hown (by omega)
        subst hv
        have cv := convC wr g 32 c (pr s 32) (by simp [pr]) (World.ownsRow.cells hown rfl)
        have HA : Hid (alld s 64) := hall
        generalize mkS (pr s 32) = T at *
        have mn : ¬ ((64 : Int) + 1 < (s.size : Int)) := by omega
        clear hown hall hm
        go_wp2_with fail
        refine (C11 _).mono ?_
        rintro e w2 ⟨rfl, hb2⟩
        have A2 := hZ.below hb2 hsz
        have hB2 := hB.trans (hb2.mono hB.size)
        have r0 := A2.c
        have z0 := A2.z
        clear hb2 A2 hZ hB C11 cv
        go_wp2_with fail
        refine bodyPost_ret (v := .tuple #[.agg #[.int .u64 a0, .int .u64 a1, .int .u64 a2, .int .u64 a3], .int .i64 0]) (by simp [results, Tryz.results45, go_sem, r0]) rfl ⟨.inl ⟨HA.out, rfl⟩, ?_⟩
        go_grown
    · have r0 := hZ.c
      have z0 := hZ.z
      have HNo : Hid (¬ alld s 64) := hno
      clear hZ hno C11 hown
      go_wp2_with fail
      all_goals
        refine bodyPost_ret (v := .tuple #[.agg #[.int .u64 0, .int .u64 0, .int .u64 0, .int .u64 0], .int .i64 10]) (by simp [results, Tryz.results45, go_sem, r0]) rfl ⟨.inr ⟨HNo.out, rfl⟩, ?_⟩
        go_grown
theorem pr_8 (s : ByteArray) (j : Nat) : 0 ≤ 16 * dg s (2 * j) + dg s (2 * j + 1) ∧ 16 * dg s (2 * j) + dg s (2 * j + 1) < 256 := by
  have h := dg_4 s (2 * j)
  have h2 := dg_4 s (2 * j + 1)
  simp at h h2
  omega
theorem refParse_64 (s : ByteArray) (hs : s.size = 64) (w : World) :
    Calls Tryz.prog 45 #[.string s] w fun e w' => ((alld s 64 ∧ e = .returned (.tuple #[nv (pn 4 (dg s) 64), .int .i64 0])) ∨
      (¬ alld s 64 ∧ e = .returned (.tuple #[.agg #[.int .u64 0, .int .u64 0, .int .u64 0, .int .u64 0], .int .i64 10]))) ∧ Below w.heap.size w w' := by
  refine refParse_core s hs _ _ _ _ (fun W => ?_) w
  have := refFromBig_yes (mkS (pr s 32)) (by rw [mkS_size]; simp [pr]) W
  have e : pn 8 (bt (mkS (pr s 32))) 32 = pn 4 (dg s) 64 := by
    rw [show (64 : Nat) = 2 * 32 from rfl, ← pn_pair]
    refine pn_congr 8 _ _ 32 fun i hi => ?_
    exact mkS_bt _ i _ (by simp [pr, hi]) (pr_8 s i).1 (pr_8 s i).2
  rw [e] at this
  exact this
end Go.Proofs.YtpigofooblmdhaaGreat
/- What num's and the reference's Parse, FromBig and FromLittle answer, for any text, in one word each. -/
set_option linter.all false
set_option maxRecDepth 100000
namespace Go.Proofs.YtpigofooblmdhaaGreat
open Go.RowKit Go.Sort
theorem nv_nil : nv 0 = .agg #[.int .u64 0, .int .u64 0, .int .u64 0, .int .u64 0] := by
  have h : ∀ k, lim 0 k = 0 := fun k => by simp [lim]
  simp only [nv, h]
set_option maxHeartbeats 1000000 in
theorem fromLittle_no (s : ByteArray) (hs : s.size ≤ maxLen) (hn : s.size ≠ 32) (w : World) :
    Calls Tryz.prog 32 #[.string s] w fun e w' => e = .returned (.tuple #[.agg #[.int .u64 0, .int .u64 0, .int .u64 0, .int .u64 0], .int .i64 (lenE s.size 32)]) ∧ Below w.heap.size w w' := by
  have LE := fun W => lengthError_any s 32 hs W
  have ne : ¬ lenE (s.size : Int) 32 = 0 := by unfold lenE; split <;> (try split) <;> omega
  generalize lenE (s.size : Int) 32 = E at *
  go_enter Tryz.func32, Tryz.ntmps32
  go_wp2_with (go_at_call 53; refine (LE _).mono ?_; rintro e w1 ⟨rfl, rfl⟩)
  refine bodyPost_ret (v := .tuple #[.agg #[.int .u64 0, .int .u64 0, .int .u64 0, .int .u64 0], .int .i64 E]) (by simp [results, Tryz.results32, go_sem]) rfl ⟨rfl, ?_⟩
  go_grown
/-- The number of 32 bytes, the lowest first. -/
def flN (s : ByteArray) : Int := if s.size = 32 then pn 8 (fun i => bt s (31 - i)) 32 else 0
/-- The number of 32 bytes, the highest first. -/
def fbN (s : ByteArray) : Int := if s.size = 32 then pn 8 (bt s) 32 else 0
/-- Whether all digits are such can be told. -/
def alldD (s : ByteArray) (k : Nat) : Decidable (alld s k) := Nat.decidableBallLT k (fun i _ => dgo (bt s i) = true)
/-- The number of 64 digits. -/
def paN (s : ByteArray) : Int := @ite Int (s.size = 64 ∧ alld s 64) (@instDecidableAnd _ _ (Nat.decEq _ _) (alldD s 64)) (pn 4 (dg s) 64) 0
def paE (s : ByteArray) : Int := if s.size = 64 then (@ite Int (alld s 64) (alldD s 64) 0 10) else lenE s.size 64
theorem lenE_yes {n : Nat} {m : Int} (h : (n : Int) = m) : lenE n m = 0 := by unfold lenE; rw [if_neg (by omega), if_neg (by omega)]
theorem fromLittle_yes (s : ByteArray) (hs : s.size = 32) (w : World) :
    Calls Tryz.prog 32 #[.string s] w fun e w' => e = .returned (.tuple #[nv (pn 8 (fun i => bt s (31 - i)) 32), .int .i64 0]) ∧ Below w.heap.size w w' := by
  refine fromLittle_ok s hs _ (fun W => ?_) w
  have := fromBig_yes (mkS (tnL s)) (by rw [mkS_size]; simp [tnL]) W
  have e : pn 8 (bt (mkS (tnL s))) 32 = pn 8 (fun i => bt s (31 - i)) 32 := pn_congr 8 _ _ 32 fun i hi => by
    have b := bt_bd s (31 - i)
    rw [mkS_bt _ i _ (tnL_at _ i hi) b.1 b.2]
  rw [e] at this
  exact this
theorem fromLittle_u (s : ByteArray) (hs : s.size ≤ maxLen) (w : World) :
    Calls Tryz.prog 32 #[.string s] w fun e w' => e = .returned (.tuple #[nv (flN s), .int .i64 (lenE s.size 32)]) ∧ Below w.heap.size w w' := by
  unfold flN
  by_cases h : s.size = 32
  · rw [if_pos h, lenE_yes (by omega)]
    exact fromLittle_yes s h w
  · rw [if_neg h, nv_nil]
    exact fromLittle_no s hs h w
theorem refFromLittle_u (s : ByteArray) (hs : s.size ≤ maxLen) (w : World) :
    Calls Tryz.prog 39 #[.string s] w fun e w' => e = .returned (.tuple #[nv (flN s), .int .i64 (lenE s.size 32)]) ∧ Below w.heap.size w w' := by
  unfold flN
  by_cases h : s.size = 32
  · rw [if_pos h, lenE_yes (by omega)]
    exact refFromLittle_yes s h w
  · rw [if_neg h, nv_nil]
    exact refFromLittle_no s hs h w
theorem fromBig_u (s : ByteArray) (hs : s.size ≤ maxLen) (w : World) :
    Calls Tryz.prog 54 #[.string s] w fun e w' => e = .returned (.tuple #[nv (fbN s), .int .i64 (lenE s.size 32)]) ∧ Below w.heap.size w w' := by
  unfold fbN
  by_cases h : s.size = 32
  · rw [if_pos h, lenE_yes (by omega)]
    exact fromBig_yes s h w
  · rw [if_neg h, nv_nil]
    exact fromBig_no s hs h w
theorem refFromBig_u (s : ByteArray) (hs : (s.size : Int) ≤ 281474976710656) (w : World) :
    Calls Tryz.prog 70 #[.string s] w fun e w' => e = .returned (.tuple #[nv (fbN s), .int .i64 (lenE s.size 32)]) ∧ Below w.heap.size w w' := by
  unfold fbN
  by_cases h : s.size = 32
  · rw [if_pos h, lenE_yes (by omega)]
    exact refFromBig_yes s h w
  · rw [if_neg h, nv_nil]
    exact refFromBig_no s hs h w
theorem refParse_u (s : ByteArray) (hs : s.size ≤ maxLen) (w : World) :
    Calls Tryz.prog 45 #[.string s] w fun e w' => e = .returned (.tuple #[nv (paN s), .int .i64 (paE s)]) ∧ Below w.heap.size w w' := by
  unfold paN paE
  by_cases h : s.size = 64
  · refine (refParse_64 s h w).mono ?_
    rintro e w' ⟨⟨hall, rfl⟩ | ⟨hn, rfl⟩, hb⟩
    · refine ⟨?_, hb⟩
      rw [if_pos ⟨h, hall⟩, if_pos h, if_pos hall]
    · refine ⟨?_, hb⟩
      rw [if_neg (fun c => hn c.2), if_pos h, if_neg hn, nv_nil]
  · rw [if_neg (fun c => h c.1), if_neg h, nv_nil]
    exact refParse_no s hs h w
end Go.Proofs.YtpigofooblmdhaaGreat
/- What Clamp and coordinate answer, in xdh and in the reference. -/
set_option linter.all false
set_option maxRecDepth 100000
namespace Go.Proofs.YtpigofooblmdhaaGreat
open Go.RowKit Go.Sort
theorem b_low3 (z : Int) (h0 : 0 ≤ z) (h1 : z < 18446744073709551616) : bits .andNot .u64 z 7 = z / 8 * 8 := by go_bits2
theorem b_and63 (z : Int) (h0 : 0 ≤ z) (h1 : z < 18446744073709551616) : bits .and .u64 z 9223372036854775807 = z % 9223372036854775808 := by go_bits2
theorem b_not63 (z : Int) (h0 : 0 ≤ z) (h1 : z < 18446744073709551616) : bits .andNot .u64 z 9223372036854775808 = z % 9223372036854775808 := by go_bits2
theorem or62n (n : Nat) (h : n < 9223372036854775808) : n ||| 4611686018427387904 = n % 4611686018427387904 + 4611686018427387904 := by
  have key : ∀ r : Nat, r < 4611686018427387904 → 4611686018427387904 ||| r = 4611686018427387904 + r := fun r hr => by
    have := @Nat.two_pow_add_eq_or_of_lt 62 r (by simpa using hr) 1
    simp at this
    exact this.symm
  by_cases c : n < 4611686018427387904
  · rw [Nat.or_comm, key n c, Nat.mod_eq_of_lt c]; omega
  · obtain ⟨r, rfl⟩ : ∃ r, n = 4611686018427387904 + r := ⟨n - 4611686018427387904, by omega⟩
    rw [← key r (by omega), Nat.or_comm, ← Nat.or_assoc, Nat.or_self, key r (by omega)]
    omega
theorem b_or62 (z : Int) (h0 : 0 ≤ z) (h1 : z < 9223372036854775808) : bits .or .u64 z 4611686018427387904 = z % 4611686018427387904 + 4611686018427387904 := by
  have e := u64_or z 4611686018427387904 h0 (by omega) (by omega) (by omega)
  rw [e]
  have t : (4611686018427387904 : Int).toNat = 4611686018427387904 := rfl
  rw [t, or62n z.toNat (by omega)]
  omega
/-- A number as a scalar: without its bits 0, 1, 2 and 255, with bit 254. -/
def cl (N : Int) : Int := N % 28948022309329048855892746252171976963317496166410141009864396001978282409984 / 8 * 8 + 28948022309329048855892746252171976963317496166410141009864396001978282409984
theorem cl_lims (N : Int) : lim (cl N) 0 = lim N 0 / 8 * 8 ∧ lim (cl N) 1 = lim N 1 ∧ lim (cl N) 2 = lim N 2 ∧ lim (cl N) 3 = lim N 3 % 4611686018427387904 + 4611686018427387904 := by
  rw [lim0, lim1, lim2, lim3, lim0, lim1, lim2, lim3]; unfold cl; omega
theorem inn_cl (N : Int) : Inn (cl N) := by unfold Inn cl top256; omega
/-- A number as a coordinate: without its bit 255. -/
def c5 (N : Int) : Int := N % 57896044618658097711785492504343953926634992332820282019728792003956564819968
theorem c5_lims (N : Int) : lim (c5 N) 0 = lim N 0 ∧ lim (c5 N) 1 = lim N 1 ∧ lim (c5 N) 2 = lim N 2 ∧ lim (c5 N) 3 = lim N 3 % 9223372036854775808 := by
  rw [lim0, lim1, lim2, lim3, lim0, lim1, lim2, lim3]; unfold c5; omega
theorem inn_c5 (N : Int) : Inn (c5 N) := by unfold Inn c5 top256; omega
theorem lenE_nz {n : Nat} (h : n ≠ 32) : ¬ lenE (n : Int) 32 = 0 := by unfold lenE; split <;> (try split) <;> omega
set_option maxHeartbeats 2000000 in
theorem clamp_er (s : ByteArray) (N E : Int) (hE : ¬ E = 0) (w : World)
    (CF : ∀ W, Calls Tryz.prog 32 #[.string s] W fun e w' => e = .returned (.tuple #[nv N, .int .i64 E]) ∧ Below W.heap.size W w') :
    Calls Tryz.prog 25 #[.string s] w fun e w' => e = .returned (.tuple #[.agg #[.int .u64 0, .int .u64 0, .int .u64 0, .int .u64 0], .int .i64 E]) ∧ Below w.heap.size w w' := by
  go_enter Tryz.func25, Tryz.ntmps25
  have Bz := Arr.mk4 (w := (w.alloc (.cells #[.int .u64 0, .int .u64 0, .int .u64 0, .int .u64 0] 34))) (f := fun _ => .int .u64 0) (b := w.heap.size) (by simp [go_sem]) (by simp [go_sem]) (by simp [go_sem]) (by simp [go_sem]) (by simp [go_sem]) (by simp [go_sem]) (by simp [go_sem]) (by simp [go_sem])
  have hB' : Below w.heap.size w (w.alloc (.cells #[.int .u64 0, .int .u64 0, .int .u64 0, .int .u64 0] 34)) := by go_grown
  have Az := Bz
  have hB := hB'
  clear Bz hB'
  go_wp2_with fail
  refine (CF _).mono ?_
  rintro e w1 ⟨rfl, hb⟩
  have Bz := Arr.to' Az hb
  have hB' := Bel.call hB hb
  clear hb Az hB CF
  have Az := Bz
  have hB := hB'
  clear Bz hB'
  have cz := Az.c
  have zz := Az.z
  have lz := Az.lt
  have hS := hB.size
  go_wp2_with fail
  refine bodyPost_ret (v := .tuple #[.agg #[.int .u64 0, .int .u64 0, .int .u64 0, .int .u64 0], .int .i64 E]) (by simp [results, Tryz.results25, go_sem, cz, lz]) rfl ⟨rfl, ?_⟩
  go_grown
set_option maxHeartbeats 2000000 in
theorem clamp_ok (s : ByteArray) (N : Int) (w : World)
    (CF : ∀ W, Calls Tryz.prog 32 #[.string s] W fun e w' => e = .returned (.tuple #[nv N, .int .i64 0]) ∧ Below W.heap.size W w') :
    Calls Tryz.prog 25 #[.string s] w fun e w' => e = .returned (.tuple #[nv (cl N), .int .i64 0]) ∧ Below w.heap.size w w' := by
  go_enter Tryz.func25, Tryz.ntmps25
  have Bz := Arr.mk4 (w := (w.alloc (.cells #[.int .u64 0, .int .u64 0, .int .u64 0, .int .u64 0] 34))) (f := fun _ => .int .u64 0) (b := w.heap.size) (by simp [go_sem]) (by simp [go_sem]) (by simp [go_sem]) (by simp [go_sem]) (by simp [go_sem]) (by simp [go_sem]) (by simp [go_sem]) (by simp [go_sem])
  have hB' : Below w.heap.size w (w.alloc (.cells #[.int .u64 0, .int .u64 0, .int .u64 0, .int .u64 0] 34)) := by go_grown
  have Az := Bz
  have hB := hB'
  clear Bz hB'
  go_wp2_with fail
  refine (CF _).mono ?_
  rintro e w1 ⟨rfl, hb⟩
  have Bz := Arr.to' Az hb
  have hB' := Bel.call hB hb
  clear hb Az hB CF
  have Az := Bz
  have hB := hB'
  clear Bz hB'
  have cz := Az.c
  have zz := Az.z
  have lz := Az.lt
  have hS := hB.size
  obtain ⟨q0, q1, q2, q3⟩ := cl_lims N
  have b0 : bits .andNot .u64 (lim N 0) 7 = lim (cl N) 0 := by rw [b_low3 _ (lim_nn _ _) (lim_lt _ _), q0]
  have b3 : bits .or .u64 (bits .andNot .u64 (lim N 3) 9223372036854775808) 4611686018427387904 = lim (cl N) 3 := by rw [b_not63 _ (lim_nn _ _) (lim_lt _ _), b_or62 _ (by omega) (by omega), q3]; omega
  clear q0 q3
  go_wp2_with fail
  refine bodyPost_ret (v := .tuple #[nv (cl N), .int .i64 0]) (by simp [results, Tryz.results25, go_sem, cz, lz, q1, q2]) rfl ⟨rfl, ?_⟩
  go_grown
theorem clamp_u (s : ByteArray) (hs : s.size ≤ maxLen) (w : World) :
    Calls Tryz.prog 25 #[.string s] w fun e w' => e = .returned (.tuple #[nv (if s.size = 32 then cl (flN s) else 0), .int .i64 (lenE s.size 32)]) ∧ Below w.heap.size w w' := by
  have u := fun W => fromLittle_u s hs W
  by_cases h : s.size = 32
  · rw [if_pos h]
    rw [lenE_yes (by omega)] at u ⊢
    exact clamp_ok s _ w u
  · rw [if_neg h, nv_nil]
    exact clamp_er s _ _ (lenE_nz h) w u
set_option maxHeartbeats 2000000 in
theorem rclamp_er (s : ByteArray) (N E : Int) (hE : ¬ E = 0) (w : World)
    (CF : ∀ W, Calls Tryz.prog 39 #[.string s] W fun e w' => e = .returned (.tuple #[nv N, .int .i64 E]) ∧ Below W.heap.size W w') :
    Calls Tryz.prog 29 #[.string s] w fun e w' => e = .returned (.tuple #[.agg #[.int .u64 0, .int .u64 0, .int .u64 0, .int .u64 0], .int .i64 E]) ∧ Below w.heap.size w w' := by
  go_enter Tryz.func29, Tryz.ntmps29
  have Bz := Arr.mk4 (w := (w.alloc (.cells #[.int .u64 0, .int .u64 0, .int .u64 0, .int .u64 0] 34))) (f := fun _ => .int .u64 0) (b := w.heap.size) (by simp [go_sem]) (by simp [go_sem]) (by simp [go_sem]) (by simp [go_sem]) (by simp [go_sem]) (by simp [go_sem]) (by simp [go_sem]) (by simp [go_sem])
  have hB' : Below w.heap.size w (w.alloc (.cells #[.int .u64 0, .int .u64 0, .int .u64 0, .int .u64 0] 34)) := by go_grown
  have Az := Bz
  have hB := hB'
  clear Bz hB'
  go_wp2_with fail
  refine (CF _).mono ?_
  rintro e w1 ⟨rfl, hb⟩
  have Bz := Arr.to' Az hb
  have hB' := Bel.call hB hb
  clear hb Az hB CF
  have Az := Bz
  have hB := hB'
  clear Bz hB'
  have cz := Az.c
  have zz := Az.z
  have lz := Az.lt
  have hS := hB.size
  go_wp2_with fail
  refine bodyPost_ret (v := .tuple #[.agg #[.int .u64 0, .int .u64 0, .int .u64 0, .int .u64 0], .int .i64 E]) (by simp [results, Tryz.results29, go_sem, cz, lz]) rfl ⟨rfl, ?_⟩
  go_grown
set_option maxHeartbeats 2000000 in
theorem rclamp_ok (s : ByteArray) (N : Int) (w : World)
    (CF : ∀ W, Calls Tryz.prog 39 #[.string s] W fun e w' => e = .returned (.tuple #[nv N, .int .i64 0]) ∧ Below W.heap.size W w') :
    Calls Tryz.prog 29 #[.string s] w fun e w' => e = .returned (.tuple #[nv (cl N), .int .i64 0]) ∧ Below w.heap.size w w' := by
  go_enter Tryz.func29, Tryz.ntmps29
  have Bz := Arr.mk4 (w := (w.alloc (.cells #[.int .u64 0, .int .u64 0, .int .u64 0, .int .u64 0] 34))) (f := fun _ => .int .u64 0) (b := w.heap.size) (by simp [go_sem]) (by simp [go_sem]) (by simp [go_sem]) (by simp [go_sem]) (by simp [go_sem]) (by simp [go_sem]) (by simp [go_sem]) (by simp [go_sem])
  have hB' : Below w.heap.size w (w.alloc (.cells #[.int .u64 0, .int .u64 0, .int .u64 0, .int .u64 0] 34)) := by go_grown
  have Az := Bz
  have hB := hB'
  clear Bz hB'
  go_wp2_with fail
  refine (CF _).mono ?_
  rintro e w1 ⟨rfl, hb⟩
  have Bz := Arr.to' Az hb
  have hB' := Bel.call hB hb
  clear hb Az hB CF
  have Az := Bz
  have hB := hB'
  clear Bz hB'
  have cz := Az.c
  have zz := Az.z
  have lz := Az.lt
  have hS := hB.size
  obtain ⟨q0, q1, q2, q3⟩ := cl_lims N
  have b0 : IntKind.u64.wrap (lim N 0 / 8 * 8) = lim (cl N) 0 := by rw [q0, IntKind.wrap_u64]; have := lim_nn N 0; have := lim_lt N 0; omega
  have b3 : bits .or .u64 (bits .and .u64 (lim N 3) 9223372036854775807) 4611686018427387904 = lim (cl N) 3 := by rw [b_and63 _ (lim_nn _ _) (lim_lt _ _), b_or62 _ (by omega) (by omega), q3]; omega
  clear q0 q3
  go_wp2_with fail
  refine bodyPost_ret (v := .tuple #[nv (cl N), .int .i64 0]) (by simp [results, Tryz.results29, go_sem, cz, lz, q1, q2]) rfl ⟨rfl, ?_⟩
  go_grown
theorem rclamp_u (s : ByteArray) (hs : s.size ≤ maxLen) (w : World) :
    Calls Tryz.prog 29 #[.string s] w fun e w' => e = .returned (.tuple #[nv (if s.size = 32 then cl (flN s) else 0), .int .i64 (lenE s.size 32)]) ∧ Below w.heap.size w w' := by
  have u := fun W => refFromLittle_u s hs W
  by_cases h : s.size = 32
  · rw [if_pos h]
    rw [lenE_yes (by omega)] at u ⊢
    exact rclamp_ok s _ w u
  · rw [if_neg h, nv_nil]
    exact rclamp_er s _ _ (lenE_nz h) w u
set_option maxHeartbeats 2000000 in
theorem coord_er (s : ByteArray) (N E : Int) (hE : ¬ E = 0) (w : World)
    (CF : ∀ W, Calls Tryz.prog 32 #[.string s] W fun e w' => e = .returned (.tuple #[nv N, .int .i64 E]) ∧ Below W.heap.size W w') :
    Calls Tryz.prog 13 #[.string s] w fun e w' => e = .returned (.tuple #[.agg #[.int .u64 0, .int .u64 0, .int .u64 0, .int .u64 0], .int .i64 E]) ∧ Below w.heap.size w w' := by
  go_enter Tryz.func13, Tryz.ntmps13
  have Bz := Arr.mk4 (w := (w.alloc (.cells #[.int .u64 0, .int .u64 0, .int .u64 0, .int .u64 0] 34))) (f := fun _ => .int .u64 0) (b := w.heap.size) (by simp [go_sem]) (by simp [go_sem]) (by simp [go_sem]) (by simp [go_sem]) (by simp [go_sem]) (by simp [go_sem]) (by simp [go_sem]) (by simp [go_sem])
  have hB' : Below w.heap.size w (w.alloc (.cells #[.int .u64 0, .int .u64 0, .int .u64 0, .int .u64 0] 34)) := by go_grown
  have Az := Bz
  have hB := hB'
  clear Bz hB'
  go_wp2_with fail
  refine (CF _).mono ?_
  rintro e w1 ⟨rfl, hb⟩
  have Bz := Arr.to' Az hb
  have hB' := Bel.call hB hb
  clear hb Az hB CF
  have Az := Bz
  have hB := hB'
  clear Bz hB'
  have cz := Az.c
  have zz := Az.z
  have lz := Az.lt
  have hS := hB.size
  go_wp2_with fail
  refine bodyPost_ret (v := .tuple #[.agg #[.int .u64 0, .int .u64 0, .int .u64 0, .int .u64 0], .int .i64 E]) (by simp [results, Tryz.results13, go_sem, cz, lz]) rfl ⟨rfl, ?_⟩
  go_grown
set_option maxHeartbeats 2000000 in
theorem coord_ok (s : ByteArray) (N R : Int) (w : World)
    (CF : ∀ W, Calls Tryz.prog 32 #[.string s] W fun e w' => e = .returned (.tuple #[nv N, .int .i64 0]) ∧ Below W.heap.size W w')
    (CR : ∀ W, Calls Tryz.prog 33 #[nv (c5 N), .agg #[.int .u64 0, .int .u64 0, .int .u64 0, .int .u64 0], nv pp] W fun e w' => e = .returned (nv R) ∧ Below W.heap.size W w') :
    Calls Tryz.prog 13 #[.string s] w fun e w' => e = .returned (.tuple #[nv R, .int .i64 0]) ∧ Below w.heap.size w w' := by
  go_enter Tryz.func13, Tryz.ntmps13
  have Bz := Arr.mk4 (w := (w.alloc (.cells #[.int .u64 0, .int .u64 0, .int .u64 0, .int .u64 0] 34))) (f := fun _ => .int .u64 0) (b := w.heap.size) (by simp [go_sem]) (by simp [go_sem]) (by simp [go_sem]) (by simp [go_sem]) (by simp [go_sem]) (by simp [go_sem]) (by simp [go_sem]) (by simp [go_sem])
  have hB' : Below w.heap.size w (w.alloc (.cells #[.int .u64 0, .int .u64 0, .int .u64 0, .int .u64 0] 34)) := by go_grown
  have Az := Bz
  have hB := hB'
  clear Bz hB'
  go_wp2_with fail
  refine (CF _).mono ?_
  rintro e w1 ⟨rfl, hb⟩
  have Bz := Arr.to' Az hb
  have hB' := Bel.call hB hb
  clear hb Az hB CF
  have Az := Bz
  have hB := hB'
  clear Bz hB'
  obtain ⟨q0, q1, q2, q3⟩ := c5_lims N
  have b3 : bits .andNot .u64 (lim N 3) 9223372036854775808 = lim (c5 N) 3 := by rw [b_not63 _ (lim_nn _ _) (lim_lt _ _), q3]
  replace q0 := q0.symm
  replace q1 := q1.symm
  replace q2 := q2.symm
  clear q3
  have lz_2 := Az.lt
  have lB_2 := hB.size
  have Bz := (Arr.al' Az (.cells #[.int .u64 (lim (c5 N) 0), .int .u64 (lim (c5 N) 1), .int .u64 (lim (c5 N) 2), .int .u64 (lim (c5 N) 3)] 34))
  have Bn := Arr.mk4 (w := (w1.alloc (.cells #[.int .u64 (lim (c5 N) 0), .int .u64 (lim (c5 N) 1), .int .u64 (lim (c5 N) 2), .int .u64 (lim (c5 N) 3)] 34))) (f := fun j => .int .u64 (lim (c5 N) j)) (b := w1.heap.size) (by simp [go_sem]) (by simp [go_sem]) (by simp [go_sem]) (by simp [go_sem]) (by simp [go_sem]) (by simp [go_sem]) (by simp [go_sem]) (by simp [go_sem])
  have hB' := (Bel.al hB (.cells #[.int .u64 (lim (c5 N) 0), .int .u64 (lim (c5 N) 1), .int .u64 (lim (c5 N) 2), .int .u64 (lim (c5 N) 3)] 34))
  clear Az hB
  have Az := Bz
  have An := Bn
  have hB := hB'
  clear Bz Bn hB'
  have rn0 := fun ds os => cell_regrown (An.c 0 (by omega)) ds os
  have rn1 := fun ds os => cell_regrown (An.c 1 (by omega)) ds os
  have rn2 := fun ds os => cell_regrown (An.c 2 (by omega)) ds os
  have rn3 := fun ds os => cell_regrown (An.c 3 (by omega)) ds os
  go_wp2_with fail
  refine wp_region_below_tail 4 (by kernel_rfl) (by kernel_rfl) ?_
  simp only [List.take_succ_cons, List.take_zero, List.drop_succ_cons, List.drop_zero]
  repeat (go_big_quiet_step (first | (go_at_call 34; exact Calls.regrown_of (p21 _)) | (go_at_call 33; exact Calls.regrown_of (CR _))))
  refine wpQuiet_nil ?_
  intro w2 hw'
  obtain ⟨⟨dq, osq⟩, hw''⟩ := hw'
  have hb := below_of hw''
  clear hw''
  have Bz := Arr.to' Az hb
  have hB' := Bel.call hB hb
  clear hb rn0 rn1 rn2 rn3 Az An hB CR q0 q1 q2 b3
  have Az := Bz
  have hB := hB'
  clear Bz hB'
  have hS := hB.size
  have cz := Az.c
  have zz := Az.z
  go_wp2_with fail
  refine bodyPost_ret (v := .tuple #[nv R, .int .i64 0]) (by simp [results, Tryz.results13, go_sem, cz]) rfl ⟨rfl, ?_⟩
  go_grown
theorem coord_u (s : ByteArray) (hs : s.size ≤ maxLen) (w : World) :
    Calls Tryz.prog 13 #[.string s] w fun e w' => e = .returned (.tuple #[nv (if s.size = 32 then c5 (flN s) % pp else 0), .int .i64 (lenE s.size 32)]) ∧ Below w.heap.size w w' := by
  have u := fun W => fromLittle_u s hs W
  by_cases h : s.size = 32
  · rw [if_pos h]
    rw [lenE_yes (by omega)] at u ⊢
    refine coord_ok s _ _ w u fun W => ?_
    have := rem_any (c5 (flN s)) 0 pp (inn_c5 _).1 (inn_c5 _).2 (by omega) (by decide) inn_pp.1 inn_pp.2 W
    rw [nv_zero, Int.zero_mul, Int.add_zero, md_pos _ pp_pos] at this
    exact this
  · rw [if_neg h, nv_nil]
    exact coord_er s _ _ (lenE_nz h) w u
set_option maxHeartbeats 2000000 in
theorem rcoord_er (s : ByteArray) (N E : Int) (hE : ¬ E = 0) (w : World)
    (CF : ∀ W, Calls Tryz.prog 39 #[.string s] W fun e w' => e = .returned (.tuple #[nv N, .int .i64 E]) ∧ Below W.heap.size W w') :
    Calls Tryz.prog 16 #[.string s] w fun e w' => e = .returned (.tuple #[.agg #[.int .u64 0, .int .u64 0, .int .u64 0, .int .u64 0], .int .i64 E]) ∧ Below w.heap.size w w' := by
  go_enter Tryz.func16, Tryz.ntmps16
  have Bz := Arr.mk4 (w := (w.alloc (.cells #[.int .u64 0, .int .u64 0, .int .u64 0, .int .u64 0] 34))) (f := fun _ => .int .u64 0) (b := w.heap.size) (by simp [go_sem]) (by simp [go_sem]) (by simp [go_sem]) (by simp [go_sem]) (by simp [go_sem]) (by simp [go_sem]) (by simp [go_sem]) (by simp [go_sem])
  have hB' : Below w.heap.size w (w.alloc (.cells #[.int .u64 0, .int .u64 0, .int .u64 0, .int .u64 0] 34)) := by go_grown
  have Az := Bz
  have hB := hB'
  clear Bz hB'
  go_wp2_with fail
  refine (CF _).mono ?_
  rintro e w1 ⟨rfl, hb⟩
  have Bz := Arr.to' Az hb
  have hB' := Bel.call hB hb
  clear hb Az hB CF
  have Az := Bz
  have hB := hB'
  clear Bz hB'
  have cz := Az.c
  have zz := Az.z
  have lz := Az.lt
  have hS := hB.size
  go_wp2_with fail
  refine bodyPost_ret (v := .tuple #[.agg #[.int .u64 0, .int .u64 0, .int .u64 0, .int .u64 0], .int .i64 E]) (by simp [results, Tryz.results16, go_sem, cz, lz]) rfl ⟨rfl, ?_⟩
  go_grown
set_option maxHeartbeats 2000000 in
theorem rcoord_ok (s : ByteArray) (N R : Int) (w : World)
    (CF : ∀ W, Calls Tryz.prog 39 #[.string s] W fun e w' => e = .returned (.tuple #[nv N, .int .i64 0]) ∧ Below W.heap.size W w')
    (CR : ∀ W, Calls Tryz.prog 40 #[nv (c5 N), .agg #[.int .u64 0, .int .u64 0, .int .u64 0, .int .u64 0], nv pp] W fun e w' => e = .returned (nv R) ∧ Below W.heap.size W w') :
    Calls Tryz.prog 16 #[.string s] w fun e w' => e = .returned (.tuple #[nv R, .int .i64 0]) ∧ Below w.heap.size w w' := by
  go_enter Tryz.func16, Tryz.ntmps16
  have Bz := Arr.mk4 (w := (w.alloc (.cells #[.int .u64 0, .int .u64 0, .int .u64 0, .int .u64 0] 34))) (f := fun _ => .int .u64 0) (b := w.heap.size) (by simp [go_sem]) (by simp [go_sem]) (by simp [go_sem]) (by simp [go_sem]) (by simp [go_sem]) (by simp [go_sem]) (by simp [go_sem]) (by simp [go_sem])
  have hB' : Below w.heap.size w (w.alloc (.cells #[.int .u64 0, .int .u64 0, .int .u64 0, .int .u64 0] 34)) := by go_grown
  have Az := Bz
  have hB := hB'
  clear Bz hB'
  go_wp2_with fail
  refine (CF _).mono ?_
  rintro e w1 ⟨rfl, hb⟩
  have Bz := Arr.to' Az hb
  have hB' := Bel.call hB hb
  clear hb Az hB CF
  have Az := Bz
  have hB := hB'
  clear Bz hB'
  obtain ⟨q0, q1, q2, q3⟩ := c5_lims N
  have b3 : bits .and .u64 (lim N 3) 9223372036854775807 = lim (c5 N) 3 := by rw [b_and63 _ (lim_nn _ _) (lim_lt _ _), q3]
  replace q0 := q0.symm
  replace q1 := q1.symm
  replace q2 := q2.symm
  clear q3
  have lz_2 := Az.lt
  have lB_2 := hB.size
  have Bz := (Arr.al' Az (.cells #[.int .u64 (lim (c5 N) 0), .int .u64 (lim (c5 N) 1), .int .u64 (lim (c5 N) 2), .int .u64 (lim (c5 N) 3)] 34))
  have Bn := Arr.mk4 (w := (w1.alloc (.cells #[.int .u64 (lim (c5 N) 0), .int .u64 (lim (c5 N) 1), .int .u64 (lim (c5 N) 2), .int .u64 (lim (c5 N) 3)] 34))) (f := fun j => .int .u64 (lim (c5 N) j)) (b := w1.heap.size) (by simp [go_sem]) (by simp [go_sem]) (by simp [go_sem]) (by simp [go_sem]) (by simp [go_sem]) (by simp [go_sem]) (by simp [go_sem]) (by simp [go_sem])
  have hB' := (Bel.al hB (.cells #[.int .u64 (lim (c5 N) 0), .int .u64 (lim (c5 N) 1), .int .u64 (lim (c5 N) 2), .int .u64 (lim (c5 N) 3)] 34))
  clear Az hB
  have Az := Bz
  have An := Bn
  have hB := hB'
  clear Bz Bn hB'
  have rn0 := fun ds os => cell_regrown (An.c 0 (by omega)) ds os
  have rn1 := fun ds os => cell_regrown (An.c 1 (by omega)) ds os
  have rn2 := fun ds os => cell_regrown (An.c 2 (by omega)) ds os
  have rn3 := fun ds os => cell_regrown (An.c 3 (by omega)) ds os
  go_wp2_with fail
  refine wp_region_below_tail 4 (by kernel_rfl) (by kernel_rfl) ?_
  simp only [List.take_succ_cons, List.take_zero, List.drop_succ_cons, List.drop_zero]
  repeat (go_big_quiet_step (first | (go_at_call 20; exact Calls.regrown_of (p79 _)) | (go_at_call 40; exact Calls.regrown_of (CR _))))
  refine wpQuiet_nil ?_
  intro w2 hw'
  obtain ⟨⟨dq, osq⟩, hw''⟩ := hw'
  have hb := below_of hw''
  clear hw''
  have Bz := Arr.to' Az hb
  have hB' := Bel.call hB hb
  clear hb rn0 rn1 rn2 rn3 Az An hB CR q0 q1 q2 b3
  have Az := Bz
  have hB := hB'
  clear Bz hB'
  have hS := hB.size
  have cz := Az.c
  have zz := Az.z
  go_wp2_with fail
  refine bodyPost_ret (v := .tuple #[nv R, .int .i64 0]) (by simp [results, Tryz.results16, go_sem, cz]) rfl ⟨rfl, ?_⟩
  go_grown
theorem rcoord_u (s : ByteArray) (hs : s.size ≤ maxLen) (w : World) :
    Calls Tryz.prog 16 #[.string s] w fun e w' => e = .returned (.tuple #[nv (if s.size = 32 then c5 (flN s) % pp else 0), .int .i64 (lenE s.size 32)]) ∧ Below w.heap.size w w' := by
  have u := fun W => refFromLittle_u s hs W
  by_cases h : s.size = 32
  · rw [if_pos h]
    rw [lenE_yes (by omega)] at u ⊢
    refine rcoord_ok s _ _ w u fun W => ?_
    have := refRem_any (c5 (flN s)) 0 pp (inn_c5 _).1 (inn_c5 _).2 (by omega) (by decide) inn_pp.1 inn_pp.2 W
    rw [nv_zero, Int.zero_mul, Int.add_zero, md_pos _ pp_pos] at this
    exact this
  · rw [if_neg h, nv_nil]
    exact rcoord_er s _ _ (lenE_nz h) w u
end Go.Proofs.YtpigofooblmdhaaGreat
/- What Raw and Shared of xdh answer. -/
set_option linter.all false
set_option maxRecDepth 100000
namespace Go.Proofs.YtpigofooblmdhaaGreat
open Go.RowKit Go.Sort
set_option maxHeartbeats 2000000 in
theorem raw_k (k u : ByteArray) (K E : Int) (hE : ¬ E = 0) (w : World)
    (CK : ∀ W, Calls Tryz.prog 25 #[.string k] W fun e w' => e = .returned (.tuple #[nv K, .int .i64 E]) ∧ Below W.heap.size W w') :
    Calls Tryz.prog 9 #[.string k, .string u] w fun e w' => e = .returned (.tuple #[.string ⟨#[]⟩, .int .i64 E]) ∧ Below w.heap.size w w' := by
  go_enter Tryz.func9, Tryz.ntmps9
  go_wp2_with fail
  refine (CK _).mono ?_
  rintro e w1 ⟨rfl, hb1⟩
  have hB1 := hb1
  have hS1 := hB1.size
  clear hb1 CK
  go_wp2_with fail
  go_returns
  exact ⟨rfl, by go_grown⟩
set_option maxHeartbeats 2000000 in
theorem raw_e (k u : ByteArray) (K U E : Int) (hE : ¬ E = 0) (w : World)
    (CK : ∀ W, Calls Tryz.prog 25 #[.string k] W fun e w' => e = .returned (.tuple #[nv K, .int .i64 0]) ∧ Below W.heap.size W w')
    (CU : ∀ W, Calls Tryz.prog 13 #[.string u] W fun e w' => e = .returned (.tuple #[nv U, .int .i64 E]) ∧ Below W.heap.size W w') :
    Calls Tryz.prog 9 #[.string k, .string u] w fun e w' => e = .returned (.tuple #[.string ⟨#[]⟩, .int .i64 E]) ∧ Below w.heap.size w w' := by
  go_enter Tryz.func9, Tryz.ntmps9
  go_wp2_with fail
  refine (CK _).mono ?_
  rintro e w1 ⟨rfl, hb1⟩
  have hB1 := hb1
  have hS1 := hB1.size
  clear hb1 CK
  go_wp2_with fail
  refine (CU _).mono ?_
  rintro e w2 ⟨rfl, hb2⟩
  have Ak := (Arr.mk4 (w := w1.alloc (.cells #[.int .u64 (lim K 0), .int .u64 (lim K 1), .int .u64 (lim K 2), .int .u64 (lim K 3)] 34)) (f := fun j => .int .u64 (lim K j)) (b := w1.heap.size) (by simp [go_sem]) (by simp [go_sem]) (by simp [go_sem]) (by simp [go_sem]) (by simp [go_sem]) (by simp [go_sem]) (by simp [go_sem]) (by simp [go_sem])).below hb2 (by go_size)
  have hB2 := Bel.call (Bel.al hB1 (.cells #[.int .u64 (lim K 0), .int .u64 (lim K 1), .int .u64 (lim K 2), .int .u64 (lim K 3)] 34)) hb2
  have hS2 := hB2.size
  have lk := Ak.lt
  have ck := Ak.c
  clear hb2 CU hB1
  go_wp2_with fail
  go_returns
  exact ⟨rfl, by go_grown⟩
set_option maxHeartbeats 2000000 in
theorem raw_y (k u S : ByteArray) (K U R : Int) (w : World)
    (CK : ∀ W, Calls Tryz.prog 25 #[.string k] W fun e w' => e = .returned (.tuple #[nv K, .int .i64 0]) ∧ Below W.heap.size W w')
    (CU : ∀ W, Calls Tryz.prog 13 #[.string u] W fun e w' => e = .returned (.tuple #[nv U, .int .i64 0]) ∧ Below W.heap.size W w')
    (CL : ∀ W, Calls Tryz.prog 26 #[nv K, nv U] W fun e w' => e = .returned (nv R) ∧ Below W.heap.size W w')
    (CS : ∀ W, Calls Tryz.prog 10 #[nv R] W fun e w' => e = .returned (.string S) ∧ Below W.heap.size W w') :
    Calls Tryz.prog 9 #[.string k, .string u] w fun e w' => e = .returned (.tuple #[.string S, .int .i64 0]) ∧ Below w.heap.size w w' := by
  go_enter Tryz.func9, Tryz.ntmps9
  go_wp2_with fail
  refine (CK _).mono ?_
  rintro e w1 ⟨rfl, hb1⟩
  have hB1 := hb1
  have hS1 := hB1.size
  clear hb1 CK
  go_wp2_with fail
  refine (CU _).mono ?_
  rintro e w2 ⟨rfl, hb2⟩
  have Ak := (Arr.mk4 (w := w1.alloc (.cells #[.int .u64 (lim K 0), .int .u64 (lim K 1), .int .u64 (lim K 2), .int .u64 (lim K 3)] 34)) (f := fun j => .int .u64 (lim K j)) (b := w1.heap.size) (by simp [go_sem]) (by simp [go_sem]) (by simp [go_sem]) (by simp [go_sem]) (by simp [go_sem]) (by simp [go_sem]) (by simp [go_sem]) (by simp [go_sem])).below hb2 (by go_size)
  have hB2 := Bel.call (Bel.al hB1 (.cells #[.int .u64 (lim K 0), .int .u64 (lim K 1), .int .u64 (lim K 2), .int .u64 (lim K 3)] 34)) hb2
  have hS2 := hB2.size
  have lk := Ak.lt
  have ck := Ak.c
  clear hb2 CU hB1
  go_wp2_with fail
  refine (CL _).mono ?_
  rintro e w3 ⟨rfl, hb3⟩
  have hB3 := Bel.call (Bel.al hB2 _) hb3
  clear hb3 CL hB2 ck lk Ak
  go_wp2_with fail
  refine (CS _).mono ?_
  rintro e w4 ⟨rfl, hb4⟩
  have hB4 := Bel.call hB3 hb4
  clear hb4 CS hB3
  go_wp2_with fail
  go_returns
  exact ⟨rfl, hB4⟩
/-- What the ladder tells of a scalar and a coordinate. -/
def xr (K U : Int) : Int := vl (lsts U (upto K 255 255)).1 (lsts U (upto K 255 255)).2.1
theorem inn_xr (K U : Int) : Inn (xr K U) := inn_fm _ _
/-- Raw, as a text. -/
def rawS (k u : ByteArray) : ByteArray := if k.size = 32 ∧ u.size = 32 then mkS (ltL (xr (cl (flN k)) (c5 (flN u) % pp))) else ⟨#[]⟩
/-- Raw, as an error. -/
def rawE (k u : ByteArray) : Int := if k.size = 32 then lenE u.size 32 else lenE k.size 32
theorem raw_u (k u : ByteArray) (hk : k.size ≤ maxLen) (hu : u.size ≤ maxLen) (w : World) :
    Calls Tryz.prog 9 #[.string k, .string u] w fun e w' => e = .returned (.tuple #[.string (rawS k u), .int .i64 (rawE k u)]) ∧ Below w.heap.size w w' := by
  have ck := fun W => clamp_u k hk W
  have cu := fun W => coord_u u hu W
  unfold rawS rawE
  by_cases h : k.size = 32
  · rw [if_pos h, lenE_yes (by omega)] at ck
    rw [if_pos h]
    by_cases g : u.size = 32
    · rw [if_pos g, lenE_yes (by omega)] at cu
      rw [if_pos ⟨h, g⟩, lenE_yes (by omega)]
      exact raw_y k u _ _ _ _ w ck cu (fun W => ladder_any _ _ (inn_cl _) (inn_mod _) W) (fun W => little_any _ (inn_xr _ _).1 (inn_xr _ _).2 W)
    · rw [if_neg (fun c => g c.2)]
      exact raw_e k u _ _ _ (lenE_nz g) w ck cu
  · rw [if_neg (fun c => h c.1), if_neg h]
    exact raw_k k u _ _ (lenE_nz h) w ck
set_option maxHeartbeats 2000000 in
theorem shared_e (k u S : ByteArray) (E : Int) (hE : ¬ E = 0) (w : World)
    (CR : ∀ W, Calls Tryz.prog 9 #[.string k, .string u] W fun e w' => e = .returned (.tuple #[.string S, .int .i64 E]) ∧ Below W.heap.size W w') :
    Calls Tryz.prog 23 #[.string k, .string u] w fun e w' => e = .returned (.tuple #[.string ⟨#[]⟩, .int .i64 E]) ∧ Below w.heap.size w w' := by
  go_enter Tryz.func23, Tryz.ntmps23
  go_wp2_with fail
  refine (CR _).mono ?_
  rintro e w1 ⟨rfl, hb1⟩
  have hB1 := hb1
  clear hb1 CR
  go_wp2_with fail
  go_returns
  exact ⟨rfl, by go_grown⟩
set_option maxHeartbeats 2000000 in
theorem shared_0 (k u S T : ByteArray) (he : S.toList = T.toList) (w : World)
    (CR : ∀ W, Calls Tryz.prog 9 #[.string k, .string u] W fun e w' => e = .returned (.tuple #[.string S, .int .i64 0]) ∧ Below W.heap.size W w')
    (CZ : ∀ W, Calls Tryz.prog 10 #[.agg #[.int .u64 0, .int .u64 0, .int .u64 0, .int .u64 0]] W fun e w' => e = .returned (.string T) ∧ Below W.heap.size W w') :
    Calls Tryz.prog 23 #[.string k, .string u] w fun e w' => e = .returned (.tuple #[.string ⟨#[]⟩, .int .i64 15]) ∧ Below w.heap.size w w' := by
  go_enter Tryz.func23, Tryz.ntmps23
  go_wp2_with fail
  refine (CR _).mono ?_
  rintro e w1 ⟨rfl, hb1⟩
  have hB1 := hb1
  clear hb1 CR
  go_wp2_with fail
  refine (CZ _).mono ?_
  rintro e w2 ⟨rfl, hb2⟩
  have hB2 := Bel.call hB1 hb2
  clear hb2 CZ hB1
  go_wp2_with fail
  go_returns
  exact ⟨rfl, by go_grown⟩
set_option maxHeartbeats 2000000 in
theorem shared_y (k u S T : ByteArray) (hne : ¬ S.toList = T.toList) (w : World)
    (CR : ∀ W, Calls Tryz.prog 9 #[.string k, .string u] W fun e w' => e = .returned (.tuple #[.string S, .int .i64 0]) ∧ Below W.heap.size W w')
    (CZ : ∀ W, Calls Tryz.prog 10 #[.agg #[.int .u64 0, .int .u64 0, .int .u64 0, .int .u64 0]] W fun e w' => e = .returned (.string T) ∧ Below W.heap.size W w') :
    Calls Tryz.prog 23 #[.string k, .string u] w fun e w' => e = .returned (.tuple #[.string S, .int .i64 0]) ∧ Below w.heap.size w w' := by
  go_enter Tryz.func23, Tryz.ntmps23
  go_wp2_with fail
  refine (CR _).mono ?_
  rintro e w1 ⟨rfl, hb1⟩
  have hB1 := hb1
  clear hb1 CR
  go_wp2_with fail
  have hne' : (S.toList == T.toList) = false := by simpa using hne
  refine (CZ _).mono ?_
  rintro e w2 ⟨rfl, hb2⟩
  have hB2 := Bel.call hB1 hb2
  clear hb2 CZ hB1
  go_wp2_with fail
  go_returns
  exact ⟨rfl, by go_grown⟩
/-- Shared, as a text. -/
def shS (k u : ByteArray) : ByteArray := if rawE k u = 0 ∧ ¬ (rawS k u).toList = (mkS (ltL 0)).toList then rawS k u else ⟨#[]⟩
/-- Shared, as an error. -/
def shE (k u : ByteArray) : Int := if rawE k u = 0 then (if (rawS k u).toList = (mkS (ltL 0)).toList then 15 else 0) else rawE k u
theorem shared_u (k u : ByteArray) (hk : k.size ≤ maxLen) (hu : u.size ≤ maxLen) (w : World) :
    Calls Tryz.prog 23 #[.string k, .string u] w fun e w' => e = .returned (.tuple #[.string (shS k u), .int .i64 (shE k u)]) ∧ Below w.heap.size w w' := by
  have cr := fun W => raw_u k u hk hu W
  have cz : ∀ W, Calls Tryz.prog 10 #[.agg #[.int .u64 0, .int .u64 0, .int .u64 0, .int .u64 0]] W fun e w' => e = .returned (.string (mkS (ltL 0))) ∧ Below W.heap.size W w' := fun W => by
    have := little_any 0 (by omega) (by decide) W
    rw [nv_zero] at this
    exact this
  unfold shS shE
  by_cases h : rawE k u = 0
  · rw [h] at cr
    by_cases g : (rawS k u).toList = (mkS (ltL 0)).toList
    · rw [if_neg (fun c => c.2 g), if_pos h, if_pos g]
      exact shared_0 k u _ _ g w cr cz
    · rw [if_pos ⟨h, g⟩, if_pos h, if_neg g]
      exact shared_y k u _ _ g w cr cz
  · rw [if_neg (fun c => h c.1), if_neg h]
    exact shared_e k u _ _ h w cr
end Go.Proofs.YtpigofooblmdhaaGreat
/- A round of the reference's ladder. -/
set_option linter.all false
set_option maxRecDepth 100000
namespace Go.Proofs.YtpigofooblmdhaaGreat
open Go.RowKit Go.Sort
theorem rmulq (B : Int) (iB : Inn B) (w : World) : Calls Tryz.prog 17 #[.agg #[.int .u64 121665, .int .u64 0, .int .u64 0, .int .u64 0], nv B] w fun e w' => e = .returned (nv (fm 121665 B)) ∧ Below w.heap.size w w' := by
  rw [← nv_q]; exact rmul 121665 B ⟨by decide, by decide⟩ iB w
/-- What holds of memory in the reference's Raw. -/
def RR (w w1 w2 wr : World) (K U A C B D : Int) : Prop :=
  Below w.heap.size w wr ∧ (w.heap.size ≤ w1.heap.size ∧ w1.heap.size < w2.heap.size) ∧ Arr wr w1.heap.size 4 (fun j => .int .u64 (lim (K) j)) ∧ Arr wr w2.heap.size 4 (fun j => .int .u64 (lim (U) j)) ∧ Arr wr (w2.heap.size + 1) 4 (fun j => .int .u64 (lim (A) j)) ∧ Arr wr (w2.heap.size + 1 + 1) 4 (fun j => .int .u64 (lim (C) j)) ∧ Arr wr (w2.heap.size + 1 + 1 + 1) 4 (fun j => .int .u64 (lim (B) j)) ∧ Arr wr (w2.heap.size + 1 + 1 + 1 + 1) 4 (fun j => .int .u64 (lim (D) j))
set_option maxHeartbeats 32000000 in
theorem rraw_core (k u S : ByteArray) (K U Y R bo : Int) (iU : Inn U) (w : World)
    (CK : ∀ W, Calls Tryz.prog 29 #[.string k] W fun e w' => e = .returned (.tuple #[nv K, .int .i64 0]) ∧ Below W.heap.size W w')
    (CU : ∀ W, Calls Tryz.prog 16 #[.string u] W fun e w' => e = .returned (.tuple #[nv U, .int .i64 0]) ∧ Below W.heap.size W w')
    (CS : ∀ W, Calls Tryz.prog 19 #[nv pp, .agg #[.int .u64 2, .int .u64 0, .int .u64 0, .int .u64 0]] W fun e w' => e = .returned (.tuple #[nv (pp - 2), .int .u64 bo]) ∧ Below W.heap.size W w')
    (CP : ∀ W, Calls Tryz.prog 21 #[nv (lsts U (upto K 255 255)).2.1, nv (pp - 2), nv pp] W fun e w' => e = .returned (nv Y) ∧ Below W.heap.size W w')
    (CM : ∀ W, Calls Tryz.prog 17 #[nv (lsts U (upto K 255 255)).1, nv Y] W fun e w' => e = .returned (nv R) ∧ Below W.heap.size W w')
    (CL : ∀ W, Calls Tryz.prog 24 #[nv R] W fun e w' => e = .returned (.string S) ∧ Below W.heap.size W w') :
    Calls Tryz.prog 11 #[.string k, .string u] w fun e w' => e = .returned (.tuple #[.string S, .int .i64 0]) ∧ Below w.heap.size w w' := by
  go_enter Tryz.func11, Tryz.ntmps11
  go_wp2_with fail
  refine (CK _).mono ?_
  rintro e w1 ⟨rfl, hb1⟩
  have hB1 := hb1
  have h01 := hB1.size
  clear hb1 CK
  go_wp2_with fail
  refine (CU _).mono ?_
  rintro e w2 ⟨rfl, hb2⟩
  have An := (Arr.mk4 (w := w1.alloc (.cells #[.int .u64 (lim K 0), .int .u64 (lim K 1), .int .u64 (lim K 2), .int .u64 (lim K 3)] 34)) (f := fun j => .int .u64 (lim (K) j)) (b := w1.heap.size) (by simp [go_sem]) (by simp [go_sem]) (by simp [go_sem]) (by simp [go_sem]) (by simp [go_sem]) (by simp [go_sem]) (by simp [go_sem]) (by simp [go_sem])).below hb2 (by go_size)
  have h12 := An.lt
  have hB2 := Bel.call (Bel.al hB1 (.cells #[.int .u64 (lim K 0), .int .u64 (lim K 1), .int .u64 (lim K 2), .int .u64 (lim K 3)] 34)) hb2
  clear hb2 CU hB1
  go_wp2_with fail
  go_loopw [13] (fun i wr => ∃ (m : Nat) (A C B D : Int), m ≤ 255 ∧ i = .int .i64 ((m : Int) - 1) ∧ RR w w1 w2 wr K U A C B D ∧ Hid (lsts U (upto K 255 (255 - m)) = (A, C, B, D))) (fun i _ => (intOf i + 1).toNat)
  case atStart =>
    have l10 : lim 1 0 = 1 := by decide
    have l11 : lim 1 1 = 0 := by decide
    have l12 : lim 1 2 = 0 := by decide
    have l13 : lim 1 3 = 0 := by decide
    have l00 : lim 0 0 = 0 := by decide
    have l01 : lim 0 1 = 0 := by decide
    have l02 : lim 0 2 = 0 := by decide
    have l03 : lim 0 3 = 0 := by decide
    exact ⟨255, 1, 0, U, 1, by omega, rfl, ⟨Bel.al (Bel.al (Bel.al (Bel.al (Bel.al hB2 _) _) _) _) _, ⟨h01, h12⟩, Arr.al' (Arr.al' (Arr.al' (Arr.al' (Arr.al' An _) _) _) _) _, Arr.mk4 (by simp [go_sem]) (by simp [go_sem]) (by simp [go_sem]) (by simp [go_sem]) (by simp [go_sem]) (by simp [go_sem]) (by simp [go_sem]) (by simp [go_sem]), Arr.mk4 (by simp [go_sem, l10, l11, l12, l13, l00, l01, l02, l03]) (by simp [go_sem, l10, l11, l12, l13, l00, l01, l02, l03]) (by simp [go_sem, l10, l11, l12, l13, l00, l01, l02, l03]) (by simp [go_sem, l10, l11, l12, l13, l00, l01, l02, l03]) (by simp [go_sem, l10, l11, l12, l13, l00, l01, l02, l03]) (by simp [go_sem, l10, l11, l12, l13, l00, l01, l02, l03]) (by simp [go_sem, l10, l11, l12, l13, l00, l01, l02, l03]) (by simp [go_sem, l10, l11, l12, l13, l00, l01, l02, l03]), Arr.mk4 (by simp [go_sem, l10, l11, l12, l13, l00, l01, l02, l03]) (by simp [go_sem, l10, l11, l12, l13, l00, l01, l02, l03]) (by simp [go_sem, l10, l11, l12, l13, l00, l01, l02, l03]) (by simp [go_sem, l10, l11, l12, l13, l00, l01, l02, l03]) (by simp [go_sem, l10, l11, l12, l13, l00, l01, l02, l03]) (by simp [go_sem, l10, l11, l12, l13, l00, l01, l02, l03]) (by simp [go_sem, l10, l11, l12, l13, l00, l01, l02, l03]) (by simp [go_sem, l10, l11, l12, l13, l00, l01, l02, l03]), Arr.mk4 (by simp [go_sem]) (by simp [go_sem]) (by simp [go_sem]) (by simp [go_sem]) (by simp [go_sem]) (by simp [go_sem]) (by simp [go_sem]) (by simp [go_sem]), Arr.mk4 (by simp [go_sem, l10, l11, l12, l13, l00, l01, l02, l03]) (by simp [go_sem, l10, l11, l12, l13, l00, l01, l02, l03]) (by simp [go_sem, l10, l11, l12, l13, l00, l01, l02, l03]) (by simp [go_sem, l10, l11, l12, l13, l00, l01, l02, l03]) (by simp [go_sem, l10, l11, l12, l13, l00, l01, l02, l03]) (by simp [go_sem, l10, l11, l12, l13, l00, l01, l02, l03]) (by simp [go_sem, l10, l11, l12, l13, l00, l01, l02, l03]) (by simp [go_sem, l10, l11, l12, l13, l00, l01, l02, l03])⟩, rfl⟩
  case round =>
    clear An hB2
    obtain ⟨m, A, C, B, D, hm, rfl, HR, HS⟩ := hrel
    obtain ⟨hB, _, An, Ax, Aa, Ac, Ab, Ad⟩ := HR
    by_cases hm0 : m = 0
    · subst hm0
      have hs := HS.out
      rw [show 255 - 0 = 255 from rfl] at hs
      rw [hs] at CP CM
      clear hs HS
      replace CP : ∀ W, Calls Tryz.prog 21 #[nv C, nv (pp - 2), nv pp] W fun e w' => e = .returned (nv Y) ∧ Below W.heap.size W w' := CP
      replace CM : ∀ W, Calls Tryz.prog 17 #[nv A, nv Y] W fun e w' => e = .returned (nv R) ∧ Below W.heap.size W w' := CM
      go_wp2_with fail
      refine (p79 _).mono ?_
      rintro e w11 ⟨rfl, hb⟩
      have Ba := Arr.to' Aa hb
      have Bc := Arr.to' Ac hb
      have hB' := Bel.call hB hb
      clear hb An Ax Aa Ac Ab Ad hB
      have Aa := Ba
      have Ac := Bc
      have hB := hB'
      clear Ba Bc hB'
      go_wp2_with fail
      refine (CS _).mono ?_
      rintro e w12 ⟨rfl, hb⟩
      have Ba := Arr.to' Aa hb
      have Bc := Arr.to' Ac hb
      have hB' := Bel.call hB hb
      clear hb Aa Ac hB CS
      have Aa := Ba
      have Ac := Bc
      have hB := hB'
      clear Ba Bc hB'
      have la_1 := Aa.lt
      have lc_1 := Ac.lt
      have lB_1 := hB.size
      have Ba := (Arr.al' Aa (.cells #[.int .u64 (lim (pp - 2) 0), .int .u64 (lim (pp - 2) 1), .int .u64 (lim (pp - 2) 2), .int .u64 (lim (pp - 2) 3)] 34))
      have Bc := (Arr.al' Ac (.cells #[.int .u64 (lim (pp - 2) 0), .int .u64 (lim (pp - 2) 1), .int .u64 (lim (pp - 2) 2), .int .u64 (lim (pp - 2) 3)] 34))
      have Bt := Arr.mk4 (w := (w12.alloc (.cells #[.int .u64 (lim (pp - 2) 0), .int .u64 (lim (pp - 2) 1), .int .u64 (lim (pp - 2) 2), .int .u64 (lim (pp - 2) 3)] 34))) (f := fun j => .int .u64 (lim (pp - 2) j)) (b := w12.heap.size) (by simp [go_sem]) (by simp [go_sem]) (by simp [go_sem]) (by simp [go_sem]) (by simp [go_sem]) (by simp [go_sem]) (by simp [go_sem]) (by simp [go_sem])
      have hB' := (Bel.al hB (.cells #[.int .u64 (lim (pp - 2) 0), .int .u64 (lim (pp - 2) 1), .int .u64 (lim (pp - 2) 2), .int .u64 (lim (pp - 2) 3)] 34))
      clear Aa Ac hB
      have Aa := Ba
      have Ac := Bc
      have At := Bt
      have hB := hB'
      clear Ba Bc Bt hB'
      have ra0 := fun ds os => cell_regrown (Aa.c 0 (by omega)) ds os
      have ra1 := fun ds os => cell_regrown (Aa.c 1 (by omega)) ds os
      have ra2 := fun ds os => cell_regrown (Aa.c 2 (by omega)) ds os
      have ra3 := fun ds os => cell_regrown (Aa.c 3 (by omega)) ds os
      have rc0 := fun ds os => cell_regrown (Ac.c 0 (by omega)) ds os
      have rc1 := fun ds os => cell_regrown (Ac.c 1 (by omega)) ds os
      have rc2 := fun ds os => cell_regrown (Ac.c 2 (by omega)) ds os
      have rc3 := fun ds os => cell_regrown (Ac.c 3 (by omega)) ds os
      have rt0 := fun ds os => cell_regrown (At.c 0 (by omega)) ds os
      have rt1 := fun ds os => cell_regrown (At.c 1 (by omega)) ds os
      have rt2 := fun ds os => cell_regrown (At.c 2 (by omega)) ds os
      have rt3 := fun ds os => cell_regrown (At.c 3 (by omega)) ds os
      go_wp2_with fail
      refine wp_region_quiet_below (by kernel_rfl) (by kernel_rfl) ?_
      repeat (go_big_quiet_step (first | (go_at_call 20; exact Calls.regrown_of (p79 _)) | (go_at_call 21; exact Calls.regrown_of (CP _)) | (go_at_call 17; exact Calls.regrown_of (CM _)) | (go_at_call 24; exact Calls.regrown_of (CL _))))
      refine wpQuiet_nil ?_
      intro w3 hw'
      obtain ⟨⟨dq, osq⟩, hw''⟩ := hw'
      have hb := below_of hw''
      clear hw''
      have hB' := Bel.call hB hb
      clear hb ra0 ra1 ra2 ra3 rc0 rc1 rc2 rc3 rt0 rt1 rt2 rt3 Aa Ac At hB CP CM CL
      have hB := hB'
      clear hB'
      go_wp2_with fail
      go_returns
      exact ⟨rfl, hB⟩
    obtain ⟨j, rfl⟩ : ∃ j, m = j + 1 := ⟨m - 1, by omega⟩
    have ej : ((j + 1 : Nat) : Int) - 1 = (j : Int) := by omega
    rw [ej]
    have j0 : (0 : Int) ≤ (j : Int) := by omega
    have j1 : (j : Int) < 255 := by omega
    have i4 := inn4_sts U iU (upto K 255 (255 - (j + 1)))
    rw [HS.out] at i4
    obtain ⟨iA, iC, iB, iD⟩ := i4
    replace iA : Inn A := iA
    replace iC : Inn C := iC
    replace iB : Inn B := iB
    replace iD : Inn D := iD
    clear CP CM CS CL
    have hbb : K / 2 ^ j % 2 = 0 ∨ K / 2 ^ j % 2 = 1 := by omega
    rcases hbb with hbit | hbit
    · have HN : Hid (lsts U (upto K 255 (255 - j)) = (sa A C, sc' A C, sb A C B D, sd A C B D U)) := by
        show lsts U (upto K 255 (255 - j)) = _
        rw [show 255 - j = 255 - (j + 1) + 1 by omega, upto_succ, lsts_snoc, HS.out, show 255 - 1 - (255 - (j + 1)) = j by omega]
        have eb : bitB K j = false := by unfold bitB; simp [hbit]
        rw [eb]; rfl
      have CB : ∀ W, Calls Tryz.prog 30 #[nv K, .int .i64 (j : Int)] W fun e w' => e = .returned (.int .u64 0) ∧ Below W.heap.size W w' := fun W => by
        have := refBit_in K j (j / 64) (j % 64) (by omega) (by omega) (by omega) W
        rw [hbit] at this
        exact this
      clear HS hbit
      have cn := An.c
      go_wp2_with fail
      refine (CB _).mono ?_
      rintro e w11 ⟨rfl, hb⟩
      have Bn := Arr.to' An hb
      have Bx := Arr.to' Ax hb
      have Ba := Arr.to' Aa hb
      have Bc := Arr.to' Ac hb
      have Bb := Arr.to' Ab hb
      have Bd := Arr.to' Ad hb
      have hB' := Bel.call hB hb
      clear hb cn An Ax Aa Ac Ab Ad hB CB
      have An := Bn
      have Ax := Bx
      have Aa := Ba
      have Ac := Bc
      have Ab := Bb
      have Ad := Bd
      have hB := hB'
      clear Bn Bx Ba Bc Bb Bd hB'
      have ca := Aa.c
      have za := Aa.z
      have cb := Ab.c
      have zb := Ab.z
      have cc := Ac.c
      have zc := Ac.z
      have cd := Ad.c
      have zd := Ad.z
      go_wp2_with fail
      refine (radd A C iA iC _).mono ?_
      rintro e w12 ⟨rfl, hb⟩
      have Bn := Arr.to' An hb
      have Bx := Arr.to' Ax hb
      have Ba := Arr.to' Aa hb
      have Bc := Arr.to' Ac hb
      have Bb := Arr.to' Ab hb
      have Bd := Arr.to' Ad hb
      have hB' := Bel.call hB hb
      clear hb ca za cb zb cc zc cd zd An Ax Aa Ac Ab Ad hB
      have An := Bn
      have Ax := Bx
      have Aa := Ba
      have Ac := Bc
      have Ab := Bb
      have Ad := Bd
      have hB := hB'
      clear Bn Bx Ba Bc Bb Bd hB'
      have ln_1 := An.lt
      have lx_1 := Ax.lt
      have la_1 := Aa.lt
      have lc_1 := Ac.lt
      have lb_1 := Ab.lt
      have ld_1 := Ad.lt
      have lB_1 := hB.size
      have Bn := (Arr.al' An (.cells #[.int .u64 (lim (fa A C) 0), .int .u64 (lim (fa A C) 1), .int .u64 (lim (fa A C) 2), .int .u64 (lim (fa A C) 3)] 34))
      have Bx := (Arr.al' Ax (.cells #[.int .u64 (lim (fa A C) 0), .int .u64 (lim (fa A C) 1), .int .u64 (lim (fa A C) 2), .int .u64 (lim (fa A C) 3)] 34))
      have Ba := (Arr.al' Aa (.cells #[.int .u64 (lim (fa A C) 0), .int .u64 (lim (fa A C) 1), .int .u64 (lim (fa A C) 2), .int .u64 (lim (fa A C) 3)] 34))
      have Bc := (Arr.al' Ac (.cells #[.int .u64 (lim (fa A C) 0), .int .u64 (lim (fa A C) 1), .int .u64 (lim (fa A C) 2), .int .u64 (lim (fa A C) 3)] 34))
      have Bb := (Arr.al' Ab (.cells #[.int .u64 (lim (fa A C) 0), .int .u64 (lim (fa A C) 1), .int .u64 (lim (fa A C) 2), .int .u64 (lim (fa A C) 3)] 34))
      have Bd := (Arr.al' Ad (.cells #[.int .u64 (lim (fa A C) 0), .int .u64 (lim (fa A C) 1), .int .u64 (lim (fa A C) 2), .int .u64 (lim (fa A C) 3)] 34))
      have Bs := Arr.mk4 (w := (w12.alloc (.cells #[.int .u64 (lim (fa A C) 0), .int .u64 (lim (fa A C) 1), .int .u64 (lim (fa A C) 2), .int .u64 (lim (fa A C) 3)] 34))) (f := fun j => .int .u64 (lim (fa A C) j)) (b := w12.heap.size) (by simp [go_sem]) (by simp [go_sem]) (by simp [go_sem]) (by simp [go_sem]) (by simp [go_sem]) (by simp [go_sem]) (by simp [go_sem]) (by simp [go_sem])
      have hB' := (Bel.al hB (.cells #[.int .u64 (lim (fa A C) 0), .int .u64 (lim (fa A C) 1), .int .u64 (lim (fa A C) 2), .int .u64 (lim (fa A C) 3)] 34))
      clear An Ax Aa Ac Ab Ad hB
      have An := Bn
      have Ax := Bx
      have Aa := Ba
      have Ac := Bc
      have Ab := Bb
      have Ad := Bd
      have As := Bs
      have hB := hB'
      clear Bn Bx Ba Bc Bb Bd Bs hB'
      have ca := Aa.c
      have cc := Ac.c
      go_wp2_with fail
      refine (rsub A C iA iC _).mono ?_
      rintro e w13 ⟨rfl, hb⟩
      have Bn := Arr.to' An hb
      have Bx := Arr.to' Ax hb
      have Ba := Arr.to' Aa hb
      have Bc := Arr.to' Ac hb
      have Bb := Arr.to' Ab hb
      have Bd := Arr.to' Ad hb
      have Bs := Arr.to' As hb
      have hB' := Bel.call hB hb
      clear hb ca cc An Ax Aa Ac Ab Ad As hB
      have An := Bn
      have Ax := Bx
      have Aa := Ba
      have Ac := Bc
      have Ab := Bb
      have Ad := Bd
      have As := Bs
      have hB := hB'
      clear Bn Bx Ba Bc Bb Bd Bs hB'
      have ln_2 := An.lt
      have lx_2 := Ax.lt
      have la_2 := Aa.lt
      have lc_2 := Ac.lt
      have lb_2 := Ab.lt
      have ld_2 := Ad.lt
      have ls_2 := As.lt
      have lB_2 := hB.size
      have Bn := (Arr.al' An (.cells #[.int .u64 (lim (fs A C) 0), .int .u64 (lim (fs A C) 1), .int .u64 (lim (fs A C) 2), .int .u64 (lim (fs A C) 3)] 34))
      have Bx := (Arr.al' Ax (.cells #[.int .u64 (lim (fs A C) 0), .int .u64 (lim (fs A C) 1), .int .u64 (lim (fs A C) 2), .int .u64 (lim (fs A C) 3)] 34))
      have Ba := (Arr.al' Aa (.cells #[.int .u64 (lim (fs A C) 0), .int .u64 (lim (fs A C) 1), .int .u64 (lim (fs A C) 2), .int .u64 (lim (fs A C) 3)] 34))
      have Bc := (Arr.al' Ac (.cells #[.int .u64 (lim (fs A C) 0), .int .u64 (lim (fs A C) 1), .int .u64 (lim (fs A C) 2), .int .u64 (lim (fs A C) 3)] 34))
      have Bb := (Arr.al' Ab (.cells #[.int .u64 (lim (fs A C) 0), .int .u64 (lim (fs A C) 1), .int .u64 (lim (fs A C) 2), .int .u64 (lim (fs A C) 3)] 34))
      have Bd := (Arr.al' Ad (.cells #[.int .u64 (lim (fs A C) 0), .int .u64 (lim (fs A C) 1), .int .u64 (lim (fs A C) 2), .int .u64 (lim (fs A C) 3)] 34))
      have Bs := (Arr.al' As (.cells #[.int .u64 (lim (fs A C) 0), .int .u64 (lim (fs A C) 1), .int .u64 (lim (fs A C) 2), .int .u64 (lim (fs A C) 3)] 34))
      have Bt := Arr.mk4 (w := (w13.alloc (.cells #[.int .u64 (lim (fs A C) 0), .int .u64 (lim (fs A C) 1), .int .u64 (lim (fs A C) 2), .int .u64 (lim (fs A C) 3)] 34))) (f := fun j => .int .u64 (lim (fs A C) j)) (b := w13.heap.size) (by simp [go_sem]) (by simp [go_sem]) (by simp [go_sem]) (by simp [go_sem]) (by simp [go_sem]) (by simp [go_sem]) (by simp [go_sem]) (by simp [go_sem])
      have hB' := (Bel.al hB (.cells #[.int .u64 (lim (fs A C) 0), .int .u64 (lim (fs A C) 1), .int .u64 (lim (fs A C) 2), .int .u64 (lim (fs A C) 3)] 34))
      clear An Ax Aa Ac Ab Ad As hB
      have An := Bn
      have Ax := Bx
      have Aa := Ba
      have Ac := Bc
      have Ab := Bb
      have Ad := Bd
      have As := Bs
      have At := Bt
      have hB := hB'
      clear Bn Bx Ba Bc Bb Bd Bs Bt hB'
      go_wp2_with fail
      apply wp_region_alloc_tail 5 (by kernel_rfl) (by kernel_rfl) (by kernel_rfl) (.cells #[.int .u64 0, .int .u64 0, .int .u64 0, .int .u64 0] 34) _ rfl (fun _ _ => by simp [go_sem])
      · intro W hW
        have rb0 := fun ds os => cell_regrown ((Arr.to' Ab hW).c 0 (by omega)) ds os
        have rb1 := fun ds os => cell_regrown ((Arr.to' Ab hW).c 1 (by omega)) ds os
        have rb2 := fun ds os => cell_regrown ((Arr.to' Ab hW).c 2 (by omega)) ds os
        have rb3 := fun ds os => cell_regrown ((Arr.to' Ab hW).c 3 (by omega)) ds os
        have rd0 := fun ds os => cell_regrown ((Arr.to' Ad hW).c 0 (by omega)) ds os
        have rd1 := fun ds os => cell_regrown ((Arr.to' Ad hW).c 1 (by omega)) ds os
        have rd2 := fun ds os => cell_regrown ((Arr.to' Ad hW).c 2 (by omega)) ds os
        have rd3 := fun ds os => cell_regrown ((Arr.to' Ad hW).c 3 (by omega)) ds os
        have rs0 := fun ds os => cell_regrown ((Arr.to' As hW).c 0 (by omega)) ds os
        have rs1 := fun ds os => cell_regrown ((Arr.to' As hW).c 1 (by omega)) ds os
        have rs2 := fun ds os => cell_regrown ((Arr.to' As hW).c 2 (by omega)) ds os
        have rs3 := fun ds os => cell_regrown ((Arr.to' As hW).c 3 (by omega)) ds os
        simp only [List.take_succ_cons, List.take_zero]
        repeat (go_big_quiet_step (first | (go_at_call 31; with_reducible exact Calls.regrown_of (rsub _ _ (by first | exact inn_fm _ _ | exact inn_fa _ _ | exact inn_fs _ _ | assumption) (by first | exact inn_fm _ _ | exact inn_fa _ _ | exact inn_fs _ _ | assumption) _)) | (go_at_call 17; with_reducible exact Calls.regrown_of (rmul _ _ (by first | exact inn_fm _ _ | exact inn_fa _ _ | exact inn_fs _ _ | assumption) (by first | exact inn_fm _ _ | exact inn_fa _ _ | exact inn_fs _ _ | assumption) _))))
        exact wpQuiet_nil rfl
      intro u4 w14 hb1 hb2
      simp only [List.drop_succ_cons, List.drop_zero, Act.put, List.setIfInBounds_toArray, List.set_cons_succ, List.set_cons_zero]
      have En := Arr.to' An hb1
      have ln_u4 := En.lt
      have Bn := Arr.to' (Arr.al' En (.cells #[.int .u64 0, .int .u64 0, .int .u64 0, .int .u64 0] 34)) hb2
      have Ex := Arr.to' Ax hb1
      have lx_u4 := Ex.lt
      have Bx := Arr.to' (Arr.al' Ex (.cells #[.int .u64 0, .int .u64 0, .int .u64 0, .int .u64 0] 34)) hb2
      have Ea := Arr.to' Aa hb1
      have la_u4 := Ea.lt
      have Ba := Arr.to' (Arr.al' Ea (.cells #[.int .u64 0, .int .u64 0, .int .u64 0, .int .u64 0] 34)) hb2
      have Ec := Arr.to' Ac hb1
      have lc_u4 := Ec.lt
      have Bc := Arr.to' (Arr.al' Ec (.cells #[.int .u64 0, .int .u64 0, .int .u64 0, .int .u64 0] 34)) hb2
      have Eb := Arr.to' Ab hb1
      have lb_u4 := Eb.lt
      have Bb := Arr.to' (Arr.al' Eb (.cells #[.int .u64 0, .int .u64 0, .int .u64 0, .int .u64 0] 34)) hb2
      have Ed := Arr.to' Ad hb1
      have ld_u4 := Ed.lt
      have Bd := Arr.to' (Arr.al' Ed (.cells #[.int .u64 0, .int .u64 0, .int .u64 0, .int .u64 0] 34)) hb2
      have Es := Arr.to' As hb1
      have ls_u4 := Es.lt
      have Bs := Arr.to' (Arr.al' Es (.cells #[.int .u64 0, .int .u64 0, .int .u64 0, .int .u64 0] 34)) hb2
      have Et := Arr.to' At hb1
      have lt_u4 := Et.lt
      have Bt := Arr.to' (Arr.al' Et (.cells #[.int .u64 0, .int .u64 0, .int .u64 0, .int .u64 0] 34)) hb2
      have Bp := (Arr.mk4 (w := (u4.alloc (.cells #[.int .u64 0, .int .u64 0, .int .u64 0, .int .u64 0] 34))) (f := fun _ => .int .u64 0) (b := u4.heap.size) (by simp [go_sem]) (by simp [go_sem]) (by simp [go_sem]) (by simp [go_sem]) (by simp [go_sem]) (by simp [go_sem]) (by simp [go_sem]) (by simp [go_sem])).below hb2 (by go_size)
      have lB_u4 := (Bel.call hB hb1).size
      have hB' := Bel.call (Bel.al (Bel.call hB hb1) (.cells #[.int .u64 0, .int .u64 0, .int .u64 0, .int .u64 0] 34)) hb2
      clear hb1 hb2 En Ex Ea Ec Eb Ed Es Et An Ax Aa Ac Ab Ad As At hB
      have An := Bn
      have Ax := Bx
      have Aa := Ba
      have Ac := Bc
      have Ab := Bb
      have Ad := Bd
      have As := Bs
      have At := Bt
      have Ap := Bp
      have hB := hB'
      clear Bn Bx Ba Bc Bb Bd Bs Bt Bp hB'
      have cp := Ap.c
      have zp := Ap.z
      have Bn := Arr.st4o (b' := u4.heap.size) An (by have := An.lt; have := Ap.lt; omega) (fm (fs B D) (fa A C))
      have Bx := Arr.st4o (b' := u4.heap.size) Ax (by have := Ax.lt; have := Ap.lt; omega) (fm (fs B D) (fa A C))
      have Ba := Arr.st4o (b' := u4.heap.size) Aa (by have := Aa.lt; have := Ap.lt; omega) (fm (fs B D) (fa A C))
      have Bc := Arr.st4o (b' := u4.heap.size) Ac (by have := Ac.lt; have := Ap.lt; omega) (fm (fs B D) (fa A C))
      have Bb := Arr.st4o (b' := u4.heap.size) Ab (by have := Ab.lt; have := Ap.lt; omega) (fm (fs B D) (fa A C))
      have Bd := Arr.st4o (b' := u4.heap.size) Ad (by have := Ad.lt; have := Ap.lt; omega) (fm (fs B D) (fa A C))
      have Bs := Arr.st4o (b' := u4.heap.size) As (by have := As.lt; have := Ap.lt; omega) (fm (fs B D) (fa A C))
      have Bt := Arr.st4o (b' := u4.heap.size) At (by have := At.lt; have := Ap.lt; omega) (fm (fs B D) (fa A C))
      have Bp := Arr.st4 Ap (fm (fs B D) (fa A C))
      have hB' := Bel.st4 hB (b := u4.heap.size) (by have := hB.size; omega) (fm (fs B D) (fa A C))
      clear An Ax Aa Ac Ab Ad As At Ap hB
      have An := Bn
      have Ax := Bx
      have Aa := Ba
      have Ac := Bc
      have Ab := Bb
      have Ad := Bd
      have As := Bs
      have At := Bt
      have Ap := Bp
      have hB := hB'
      clear Bn Bx Ba Bc Bb Bd Bs Bt Bp hB'
      go_wp2_with fail
      apply wp_region_alloc_tail 5 (by kernel_rfl) (by kernel_rfl) (by kernel_rfl) (.cells #[.int .u64 0, .int .u64 0, .int .u64 0, .int .u64 0] 34) _ rfl (fun _ _ => by simp [go_sem])
      · intro W hW
        have rb0 := fun ds os => cell_regrown ((Arr.to' Ab hW).c 0 (by omega)) ds os
        have rb1 := fun ds os => cell_regrown ((Arr.to' Ab hW).c 1 (by omega)) ds os
        have rb2 := fun ds os => cell_regrown ((Arr.to' Ab hW).c 2 (by omega)) ds os
        have rb3 := fun ds os => cell_regrown ((Arr.to' Ab hW).c 3 (by omega)) ds os
        have rd0 := fun ds os => cell_regrown ((Arr.to' Ad hW).c 0 (by omega)) ds os
        have rd1 := fun ds os => cell_regrown ((Arr.to' Ad hW).c 1 (by omega)) ds os
        have rd2 := fun ds os => cell_regrown ((Arr.to' Ad hW).c 2 (by omega)) ds os
        have rd3 := fun ds os => cell_regrown ((Arr.to' Ad hW).c 3 (by omega)) ds os
        have rt0 := fun ds os => cell_regrown ((Arr.to' At hW).c 0 (by omega)) ds os
        have rt1 := fun ds os => cell_regrown ((Arr.to' At hW).c 1 (by omega)) ds os
        have rt2 := fun ds os => cell_regrown ((Arr.to' At hW).c 2 (by omega)) ds os
        have rt3 := fun ds os => cell_regrown ((Arr.to' At hW).c 3 (by omega)) ds os
        simp only [List.take_succ_cons, List.take_zero]
        repeat (go_big_quiet_step (first | (go_at_call 18; with_reducible exact Calls.regrown_of (radd _ _ (by first | exact inn_fm _ _ | exact inn_fa _ _ | exact inn_fs _ _ | assumption) (by first | exact inn_fm _ _ | exact inn_fa _ _ | exact inn_fs _ _ | assumption) _)) | (go_at_call 17; with_reducible exact Calls.regrown_of (rmul _ _ (by first | exact inn_fm _ _ | exact inn_fa _ _ | exact inn_fs _ _ | assumption) (by first | exact inn_fm _ _ | exact inn_fa _ _ | exact inn_fs _ _ | assumption) _))))
        exact wpQuiet_nil rfl
      intro u5 w15 hb1 hb2
      simp only [List.drop_succ_cons, List.drop_zero, Act.put, List.setIfInBounds_toArray, List.set_cons_succ, List.set_cons_zero]
      have En := Arr.to' An hb1
      have ln_u5 := En.lt
      have Bn := Arr.to' (Arr.al' En (.cells #[.int .u64 0, .int .u64 0, .int .u64 0, .int .u64 0] 34)) hb2
      have Ex := Arr.to' Ax hb1
      have lx_u5 := Ex.lt
      have Bx := Arr.to' (Arr.al' Ex (.cells #[.int .u64 0, .int .u64 0, .int .u64 0, .int .u64 0] 34)) hb2
      have Ea := Arr.to' Aa hb1
      have la_u5 := Ea.lt
      have Ba := Arr.to' (Arr.al' Ea (.cells #[.int .u64 0, .int .u64 0, .int .u64 0, .int .u64 0] 34)) hb2
      have Ec := Arr.to' Ac hb1
      have lc_u5 := Ec.lt
      have Bc := Arr.to' (Arr.al' Ec (.cells #[.int .u64 0, .int .u64 0, .int .u64 0, .int .u64 0] 34)) hb2
      have Eb := Arr.to' Ab hb1
      have lb_u5 := Eb.lt
      have Bb := Arr.to' (Arr.al' Eb (.cells #[.int .u64 0, .int .u64 0, .int .u64 0, .int .u64 0] 34)) hb2
      have Ed := Arr.to' Ad hb1
      have ld_u5 := Ed.lt
      have Bd := Arr.to' (Arr.al' Ed (.cells #[.int .u64 0, .int .u64 0, .int .u64 0, .int .u64 0] 34)) hb2
      have Es := Arr.to' As hb1
      have ls_u5 := Es.lt
      have Bs := Arr.to' (Arr.al' Es (.cells #[.int .u64 0, .int .u64 0, .int .u64 0, .int .u64 0] 34)) hb2
      have Et := Arr.to' At hb1
      have lt_u5 := Et.lt
      have Bt := Arr.to' (Arr.al' Et (.cells #[.int .u64 0, .int .u64 0, .int .u64 0, .int .u64 0] 34)) hb2
      have Ep := Arr.to' Ap hb1
      have lp_u5 := Ep.lt
      have Bp := Arr.to' (Arr.al' Ep (.cells #[.int .u64 0, .int .u64 0, .int .u64 0, .int .u64 0] 34)) hb2
      have Bq := (Arr.mk4 (w := (u5.alloc (.cells #[.int .u64 0, .int .u64 0, .int .u64 0, .int .u64 0] 34))) (f := fun _ => .int .u64 0) (b := u5.heap.size) (by simp [go_sem]) (by simp [go_sem]) (by simp [go_sem]) (by simp [go_sem]) (by simp [go_sem]) (by simp [go_sem]) (by simp [go_sem]) (by simp [go_sem])).below hb2 (by go_size)
      have lB_u5 := (Bel.call hB hb1).size
      have hB' := Bel.call (Bel.al (Bel.call hB hb1) (.cells #[.int .u64 0, .int .u64 0, .int .u64 0, .int .u64 0] 34)) hb2
      clear hb1 hb2 En Ex Ea Ec Eb Ed Es Et Ep An Ax Aa Ac Ab Ad As At Ap hB
      have An := Bn
      have Ax := Bx
      have Aa := Ba
      have Ac := Bc
      have Ab := Bb
      have Ad := Bd
      have As := Bs
      have At := Bt
      have Ap := Bp
      have Aq := Bq
      have hB := hB'
      clear Bn Bx Ba Bc Bb Bd Bs Bt Bp Bq hB'
      have cq := Aq.c
      have zq := Aq.z
      have Bn := Arr.st4o (b' := u5.heap.size) An (by have := An.lt; have := Aq.lt; omega) (fm (fa B D) (fs A C))
      have Bx := Arr.st4o (b' := u5.heap.size) Ax (by have := Ax.lt; have := Aq.lt; omega) (fm (fa B D) (fs A C))
      have Ba := Arr.st4o (b' := u5.heap.size) Aa (by have := Aa.lt; have := Aq.lt; omega) (fm (fa B D) (fs A C))
      have Bc := Arr.st4o (b' := u5.heap.size) Ac (by have := Ac.lt; have := Aq.lt; omega) (fm (fa B D) (fs A C))
      have Bb := Arr.st4o (b' := u5.heap.size) Ab (by have := Ab.lt; have := Aq.lt; omega) (fm (fa B D) (fs A C))
      have Bd := Arr.st4o (b' := u5.heap.size) Ad (by have := Ad.lt; have := Aq.lt; omega) (fm (fa B D) (fs A C))
      have Bs := Arr.st4o (b' := u5.heap.size) As (by have := As.lt; have := Aq.lt; omega) (fm (fa B D) (fs A C))
      have Bt := Arr.st4o (b' := u5.heap.size) At (by have := At.lt; have := Aq.lt; omega) (fm (fa B D) (fs A C))
      have Bp := Arr.st4o (b' := u5.heap.size) Ap (by have := Ap.lt; have := Aq.lt; omega) (fm (fa B D) (fs A C))
      have Bq := Arr.st4 Aq (fm (fa B D) (fs A C))
      have hB' := Bel.st4 hB (b := u5.heap.size) (by have := hB.size; omega) (fm (fa B D) (fs A C))
      clear An Ax Aa Ac Ab Ad As At Ap Aq hB
      have An := Bn
      have Ax := Bx
      have Aa := Ba
      have Ac := Bc
      have Ab := Bb
      have Ad := Bd
      have As := Bs
      have At := Bt
      have Ap := Bp
      have Aq := Bq
      have hB := hB'
      clear Bn Bx Ba Bc Bb Bd Bs Bt Bp Bq hB'
      have cs := As.c
      go_wp2_with fail
      refine (rmul (fa A C) (fa A C) (inn_fa _ _) (inn_fa _ _) _).mono ?_
      rintro e w16 ⟨rfl, hb⟩
      have Bn := Arr.to' An hb
      have Bx := Arr.to' Ax hb
      have Ba := Arr.to' Aa hb
      have Bc := Arr.to' Ac hb
      have Bb := Arr.to' Ab hb
      have Bd := Arr.to' Ad hb
      have Bt := Arr.to' At hb
      have Bp := Arr.to' Ap hb
      have Bq := Arr.to' Aq hb
      have hB' := Bel.call hB hb
      clear hb cq zq cs An Ax Aa Ac Ab Ad As At Ap Aq hB
      have An := Bn
      have Ax := Bx
      have Aa := Ba
      have Ac := Bc
      have Ab := Bb
      have Ad := Bd
      have At := Bt
      have Ap := Bp
      have Aq := Bq
      have hB := hB'
      clear Bn Bx Ba Bc Bb Bd Bt Bp Bq hB'
      have ln_3 := An.lt
      have lx_3 := Ax.lt
      have la_3 := Aa.lt
      have lc_3 := Ac.lt
      have lb_3 := Ab.lt
      have ld_3 := Ad.lt
      have lt_3 := At.lt
      have lp_3 := Ap.lt
      have lq_3 := Aq.lt
      have lB_3 := hB.size
      have Bn := (Arr.al' An (.cells #[.int .u64 (lim (fm (fa A C) (fa A C)) 0), .int .u64 (lim (fm (fa A C) (fa A C)) 1), .int .u64 (lim (fm (fa A C) (fa A C)) 2), .int .u64 (lim (fm (fa A C) (fa A C)) 3)] 34))
      have Bx := (Arr.al' Ax (.cells #[.int .u64 (lim (fm (fa A C) (fa A C)) 0), .int .u64 (lim (fm (fa A C) (fa A C)) 1), .int .u64 (lim (fm (fa A C) (fa A C)) 2), .int .u64 (lim (fm (fa A C) (fa A C)) 3)] 34))
      have Ba := (Arr.al' Aa (.cells #[.int .u64 (lim (fm (fa A C) (fa A C)) 0), .int .u64 (lim (fm (fa A C) (fa A C)) 1), .int .u64 (lim (fm (fa A C) (fa A C)) 2), .int .u64 (lim (fm (fa A C) (fa A C)) 3)] 34))
      have Bc := (Arr.al' Ac (.cells #[.int .u64 (lim (fm (fa A C) (fa A C)) 0), .int .u64 (lim (fm (fa A C) (fa A C)) 1), .int .u64 (lim (fm (fa A C) (fa A C)) 2), .int .u64 (lim (fm (fa A C) (fa A C)) 3)] 34))
      have Bb := (Arr.al' Ab (.cells #[.int .u64 (lim (fm (fa A C) (fa A C)) 0), .int .u64 (lim (fm (fa A C) (fa A C)) 1), .int .u64 (lim (fm (fa A C) (fa A C)) 2), .int .u64 (lim (fm (fa A C) (fa A C)) 3)] 34))
      have Bd := (Arr.al' Ad (.cells #[.int .u64 (lim (fm (fa A C) (fa A C)) 0), .int .u64 (lim (fm (fa A C) (fa A C)) 1), .int .u64 (lim (fm (fa A C) (fa A C)) 2), .int .u64 (lim (fm (fa A C) (fa A C)) 3)] 34))
      have Bt := (Arr.al' At (.cells #[.int .u64 (lim (fm (fa A C) (fa A C)) 0), .int .u64 (lim (fm (fa A C) (fa A C)) 1), .int .u64 (lim (fm (fa A C) (fa A C)) 2), .int .u64 (lim (fm (fa A C) (fa A C)) 3)] 34))
      have Bp := (Arr.al' Ap (.cells #[.int .u64 (lim (fm (fa A C) (fa A C)) 0), .int .u64 (lim (fm (fa A C) (fa A C)) 1), .int .u64 (lim (fm (fa A C) (fa A C)) 2), .int .u64 (lim (fm (fa A C) (fa A C)) 3)] 34))
      have Bq := (Arr.al' Aq (.cells #[.int .u64 (lim (fm (fa A C) (fa A C)) 0), .int .u64 (lim (fm (fa A C) (fa A C)) 1), .int .u64 (lim (fm (fa A C) (fa A C)) 2), .int .u64 (lim (fm (fa A C) (fa A C)) 3)] 34))
      have Bm := Arr.mk4 (w := (w16.alloc (.cells #[.int .u64 (lim (fm (fa A C) (fa A C)) 0), .int .u64 (lim (fm (fa A C) (fa A C)) 1), .int .u64 (lim (fm (fa A C) (fa A C)) 2), .int .u64 (lim (fm (fa A C) (fa A C)) 3)] 34))) (f := fun j => .int .u64 (lim (fm (fa A C) (fa A C)) j)) (b := w16.heap.size) (by simp [go_sem]) (by simp [go_sem]) (by simp [go_sem]) (by simp [go_sem]) (by simp [go_sem]) (by simp [go_sem]) (by simp [go_sem]) (by simp [go_sem])
      have hB' := (Bel.al hB (.cells #[.int .u64 (lim (fm (fa A C) (fa A C)) 0), .int .u64 (lim (fm (fa A C) (fa A C)) 1), .int .u64 (lim (fm (fa A C) (fa A C)) 2), .int .u64 (lim (fm (fa A C) (fa A C)) 3)] 34))
      clear An Ax Aa Ac Ab Ad At Ap Aq hB
      have An := Bn
      have Ax := Bx
      have Aa := Ba
      have Ac := Bc
      have Ab := Bb
      have Ad := Bd
      have At := Bt
      have Ap := Bp
      have Aq := Bq
      have Am := Bm
      have hB := hB'
      clear Bn Bx Ba Bc Bb Bd Bt Bp Bq Bm hB'
      have ct := At.c
      go_wp2_with fail
      refine (rmul (fs A C) (fs A C) (inn_fs _ _) (inn_fs _ _) _).mono ?_
      rintro e w17 ⟨rfl, hb⟩
      have Bn := Arr.to' An hb
      have Bx := Arr.to' Ax hb
      have Ba := Arr.to' Aa hb
      have Bc := Arr.to' Ac hb
      have Bb := Arr.to' Ab hb
      have Bd := Arr.to' Ad hb
      have Bp := Arr.to' Ap hb
      have Bq := Arr.to' Aq hb
      have Bm := Arr.to' Am hb
      have hB' := Bel.call hB hb
      clear hb ct An Ax Aa Ac Ab Ad At Ap Aq Am hB
      have An := Bn
      have Ax := Bx
      have Aa := Ba
      have Ac := Bc
      have Ab := Bb
      have Ad := Bd
      have Ap := Bp
      have Aq := Bq
      have Am := Bm
      have hB := hB'
      clear Bn Bx Ba Bc Bb Bd Bp Bq Bm hB'
      have ln_4 := An.lt
      have lx_4 := Ax.lt
      have la_4 := Aa.lt
      have lc_4 := Ac.lt
      have lb_4 := Ab.lt
      have ld_4 := Ad.lt
      have lp_4 := Ap.lt
      have lq_4 := Aq.lt
      have lm_4 := Am.lt
      have lB_4 := hB.size
      have Bn := (Arr.al' An (.cells #[.int .u64 (lim (fm (fs A C) (fs A C)) 0), .int .u64 (lim (fm (fs A C) (fs A C)) 1), .int .u64 (lim (fm (fs A C) (fs A C)) 2), .int .u64 (lim (fm (fs A C) (fs A C)) 3)] 34))
      have Bx := (Arr.al' Ax (.cells #[.int .u64 (lim (fm (fs A C) (fs A C)) 0), .int .u64 (lim (fm (fs A C) (fs A C)) 1), .int .u64 (lim (fm (fs A C) (fs A C)) 2), .int .u64 (lim (fm (fs A C) (fs A C)) 3)] 34))
      have Ba := (Arr.al' Aa (.cells #[.int .u64 (lim (fm (fs A C) (fs A C)) 0), .int .u64 (lim (fm (fs A C) (fs A C)) 1), .int .u64 (lim (fm (fs A C) (fs A C)) 2), .int .u64 (lim (fm (fs A C) (fs A C)) 3)] 34))
      have Bc := (Arr.al' Ac (.cells #[.int .u64 (lim (fm (fs A C) (fs A C)) 0), .int .u64 (lim (fm (fs A C) (fs A C)) 1), .int .u64 (lim (fm (fs A C) (fs A C)) 2), .int .u64 (lim (fm (fs A C) (fs A C)) 3)] 34))
      have Bb := (Arr.al' Ab (.cells #[.int .u64 (lim (fm (fs A C) (fs A C)) 0), .int .u64 (lim (fm (fs A C) (fs A C)) 1), .int .u64 (lim (fm (fs A C) (fs A C)) 2), .int .u64 (lim (fm (fs A C) (fs A C)) 3)] 34))
      have Bd := (Arr.al' Ad (.cells #[.int .u64 (lim (fm (fs A C) (fs A C)) 0), .int .u64 (lim (fm (fs A C) (fs A C)) 1), .int .u64 (lim (fm (fs A C) (fs A C)) 2), .int .u64 (lim (fm (fs A C) (fs A C)) 3)] 34))
      have Bp := (Arr.al' Ap (.cells #[.int .u64 (lim (fm (fs A C) (fs A C)) 0), .int .u64 (lim (fm (fs A C) (fs A C)) 1), .int .u64 (lim (fm (fs A C) (fs A C)) 2), .int .u64 (lim (fm (fs A C) (fs A C)) 3)] 34))
      have Bq := (Arr.al' Aq (.cells #[.int .u64 (lim (fm (fs A C) (fs A C)) 0), .int .u64 (lim (fm (fs A C) (fs A C)) 1), .int .u64 (lim (fm (fs A C) (fs A C)) 2), .int .u64 (lim (fm (fs A C) (fs A C)) 3)] 34))
      have Bm := (Arr.al' Am (.cells #[.int .u64 (lim (fm (fs A C) (fs A C)) 0), .int .u64 (lim (fm (fs A C) (fs A C)) 1), .int .u64 (lim (fm (fs A C) (fs A C)) 2), .int .u64 (lim (fm (fs A C) (fs A C)) 3)] 34))
      have Bl := Arr.mk4 (w := (w17.alloc (.cells #[.int .u64 (lim (fm (fs A C) (fs A C)) 0), .int .u64 (lim (fm (fs A C) (fs A C)) 1), .int .u64 (lim (fm (fs A C) (fs A C)) 2), .int .u64 (lim (fm (fs A C) (fs A C)) 3)] 34))) (f := fun j => .int .u64 (lim (fm (fs A C) (fs A C)) j)) (b := w17.heap.size) (by simp [go_sem]) (by simp [go_sem]) (by simp [go_sem]) (by simp [go_sem]) (by simp [go_sem]) (by simp [go_sem]) (by simp [go_sem]) (by simp [go_sem])
      have hB' := (Bel.al hB (.cells #[.int .u64 (lim (fm (fs A C) (fs A C)) 0), .int .u64 (lim (fm (fs A C) (fs A C)) 1), .int .u64 (lim (fm (fs A C) (fs A C)) 2), .int .u64 (lim (fm (fs A C) (fs A C)) 3)] 34))
      clear An Ax Aa Ac Ab Ad Ap Aq Am hB
      have An := Bn
      have Ax := Bx
      have Aa := Ba
      have Ac := Bc
      have Ab := Bb
      have Ad := Bd
      have Ap := Bp
      have Aq := Bq
      have Am := Bm
      have Al := Bl
      have hB := hB'
      clear Bn Bx Ba Bc Bb Bd Bp Bq Bm Bl hB'
      have cm := Am.c
      go_wp2_with fail
      refine (rsub (fm (fa A C) (fa A C)) (fm (fs A C) (fs A C)) (inn_fm _ _) (inn_fm _ _) _).mono ?_
      rintro e w18 ⟨rfl, hb⟩
      have Bn := Arr.to' An hb
      have Bx := Arr.to' Ax hb
      have Ba := Arr.to' Aa hb
      have Bc := Arr.to' Ac hb
      have Bb := Arr.to' Ab hb
      have Bd := Arr.to' Ad hb
      have Bp := Arr.to' Ap hb
      have Bq := Arr.to' Aq hb
      have Bm := Arr.to' Am hb
      have Bl := Arr.to' Al hb
      have hB' := Bel.call hB hb
      clear hb cm An Ax Aa Ac Ab Ad Ap Aq Am Al hB
      have An := Bn
      have Ax := Bx
      have Aa := Ba
      have Ac := Bc
      have Ab := Bb
      have Ad := Bd
      have Ap := Bp
      have Aq := Bq
      have Am := Bm
      have Al := Bl
      have hB := hB'
      clear Bn Bx Ba Bc Bb Bd Bp Bq Bm Bl hB'
      have ln_5 := An.lt
      have lx_5 := Ax.lt
      have la_5 := Aa.lt
      have lc_5 := Ac.lt
      have lb_5 := Ab.lt
      have ld_5 := Ad.lt
      have lp_5 := Ap.lt
      have lq_5 := Aq.lt
      have lm_5 := Am.lt
      have ll_5 := Al.lt
      have lB_5 := hB.size
      have Bn := (Arr.al' An (.cells #[.int .u64 (lim (fs (fm (fa A C) (fa A C)) (fm (fs A C) (fs A C))) 0), .int .u64 (lim (fs (fm (fa A C) (fa A C)) (fm (fs A C) (fs A C))) 1), .int .u64 (lim (fs (fm (fa A C) (fa A C)) (fm (fs A C) (fs A C))) 2), .int .u64 (lim (fs (fm (fa A C) (fa A C)) (fm (fs A C) (fs A C))) 3)] 34))
      have Bx := (Arr.al' Ax (.cells #[.int .u64 (lim (fs (fm (fa A C) (fa A C)) (fm (fs A C) (fs A C))) 0), .int .u64 (lim (fs (fm (fa A C) (fa A C)) (fm (fs A C) (fs A C))) 1), .int .u64 (lim (fs (fm (fa A C) (fa A C)) (fm (fs A C) (fs A C))) 2), .int .u64 (lim (fs (fm (fa A C) (fa A C)) (fm (fs A C) (fs A C))) 3)] 34))
      have Ba := (Arr.al' Aa (.cells #[.int .u64 (lim (fs (fm (fa A C) (fa A C)) (fm (fs A C) (fs A C))) 0), .int .u64 (lim (fs (fm (fa A C) (fa A C)) (fm (fs A C) (fs A C))) 1), .int .u64 (lim (fs (fm (fa A C) (fa A C)) (fm (fs A C) (fs A C))) 2), .int .u64 (lim (fs (fm (fa A C) (fa A C)) (fm (fs A C) (fs A C))) 3)] 34))
      have Bc := (Arr.al' Ac (.cells #[.int .u64 (lim (fs (fm (fa A C) (fa A C)) (fm (fs A C) (fs A C))) 0), .int .u64 (lim (fs (fm (fa A C) (fa A C)) (fm (fs A C) (fs A C))) 1), .int .u64 (lim (fs (fm (fa A C) (fa A C)) (fm (fs A C) (fs A C))) 2), .int .u64 (lim (fs (fm (fa A C) (fa A C)) (fm (fs A C) (fs A C))) 3)] 34))
      have Bb := (Arr.al' Ab (.cells #[.int .u64 (lim (fs (fm (fa A C) (fa A C)) (fm (fs A C) (fs A C))) 0), .int .u64 (lim (fs (fm (fa A C) (fa A C)) (fm (fs A C) (fs A C))) 1), .int .u64 (lim (fs (fm (fa A C) (fa A C)) (fm (fs A C) (fs A C))) 2), .int .u64 (lim (fs (fm (fa A C) (fa A C)) (fm (fs A C) (fs A C))) 3)] 34))
      have Bd := (Arr.al' Ad (.cells #[.int .u64 (lim (fs (fm (fa A C) (fa A C)) (fm (fs A C) (fs A C))) 0), .int .u64 (lim (fs (fm (fa A C) (fa A C)) (fm (fs A C) (fs A C))) 1), .int .u64 (lim (fs (fm (fa A C) (fa A C)) (fm (fs A C) (fs A C))) 2), .int .u64 (lim (fs (fm (fa A C) (fa A C)) (fm (fs A C) (fs A C))) 3)] 34))
      have Bp := (Arr.al' Ap (.cells #[.int .u64 (lim (fs (fm (fa A C) (fa A C)) (fm (fs A C) (fs A C))) 0), .int .u64 (lim (fs (fm (fa A C) (fa A C)) (fm (fs A C) (fs A C))) 1), .int .u64 (lim (fs (fm (fa A C) (fa A C)) (fm (fs A C) (fs A C))) 2), .int .u64 (lim (fs (fm (fa A C) (fa A C)) (fm (fs A C) (fs A C))) 3)] 34))
      have Bq := (Arr.al' Aq (.cells #[.int .u64 (lim (fs (fm (fa A C) (fa A C)) (fm (fs A C) (fs A C))) 0), .int .u64 (lim (fs (fm (fa A C) (fa A C)) (fm (fs A C) (fs A C))) 1), .int .u64 (lim (fs (fm (fa A C) (fa A C)) (fm (fs A C) (fs A C))) 2), .int .u64 (lim (fs (fm (fa A C) (fa A C)) (fm (fs A C) (fs A C))) 3)] 34))
      have Bm := (Arr.al' Am (.cells #[.int .u64 (lim (fs (fm (fa A C) (fa A C)) (fm (fs A C) (fs A C))) 0), .int .u64 (lim (fs (fm (fa A C) (fa A C)) (fm (fs A C) (fs A C))) 1), .int .u64 (lim (fs (fm (fa A C) (fa A C)) (fm (fs A C) (fs A C))) 2), .int .u64 (lim (fs (fm (fa A C) (fa A C)) (fm (fs A C) (fs A C))) 3)] 34))
      have Bl := (Arr.al' Al (.cells #[.int .u64 (lim (fs (fm (fa A C) (fa A C)) (fm (fs A C) (fs A C))) 0), .int .u64 (lim (fs (fm (fa A C) (fa A C)) (fm (fs A C) (fs A C))) 1), .int .u64 (lim (fs (fm (fa A C) (fa A C)) (fm (fs A C) (fs A C))) 2), .int .u64 (lim (fs (fm (fa A C) (fa A C)) (fm (fs A C) (fs A C))) 3)] 34))
      have By := Arr.mk4 (w := (w18.alloc (.cells #[.int .u64 (lim (fs (fm (fa A C) (fa A C)) (fm (fs A C) (fs A C))) 0), .int .u64 (lim (fs (fm (fa A C) (fa A C)) (fm (fs A C) (fs A C))) 1), .int .u64 (lim (fs (fm (fa A C) (fa A C)) (fm (fs A C) (fs A C))) 2), .int .u64 (lim (fs (fm (fa A C) (fa A C)) (fm (fs A C) (fs A C))) 3)] 34))) (f := fun j => .int .u64 (lim (fs (fm (fa A C) (fa A C)) (fm (fs A C) (fs A C))) j)) (b := w18.heap.size) (by simp [go_sem]) (by simp [go_sem]) (by simp [go_sem]) (by simp [go_sem]) (by simp [go_sem]) (by simp [go_sem]) (by simp [go_sem]) (by simp [go_sem])
      have hB' := (Bel.al hB (.cells #[.int .u64 (lim (fs (fm (fa A C) (fa A C)) (fm (fs A C) (fs A C))) 0), .int .u64 (lim (fs (fm (fa A C) (fa A C)) (fm (fs A C) (fs A C))) 1), .int .u64 (lim (fs (fm (fa A C) (fa A C)) (fm (fs A C) (fs A C))) 2), .int .u64 (lim (fs (fm (fa A C) (fa A C)) (fm (fs A C) (fs A C))) 3)] 34))
      clear An Ax Aa Ac Ab Ad Ap Aq Am Al hB
      have An := Bn
      have Ax := Bx
      have Aa := Ba
      have Ac := Bc
      have Ab := Bb
      have Ad := Bd
      have Ap := Bp
      have Aq := Bq
      have Am := Bm
      have Al := Bl
      have Ay := By
      have hB := hB'
      clear Bn Bx Ba Bc Bb Bd Bp Bq Bm Bl By hB'
      have rp0 := fun ds os => cell_regrown (Ap.c 0 (by omega)) ds os
      have rp1 := fun ds os => cell_regrown (Ap.c 1 (by omega)) ds os
      have rp2 := fun ds os => cell_regrown (Ap.c 2 (by omega)) ds os
      have rp3 := fun ds os => cell_regrown (Ap.c 3 (by omega)) ds os
      have rq0 := fun ds os => cell_regrown (Aq.c 0 (by omega)) ds os
      have rq1 := fun ds os => cell_regrown (Aq.c 1 (by omega)) ds os
      have rq2 := fun ds os => cell_regrown (Aq.c 2 (by omega)) ds os
      have rq3 := fun ds os => cell_regrown (Aq.c 3 (by omega)) ds os
      go_wp2_with fail
      refine wp_region_below_tail 7 (by kernel_rfl) (by kernel_rfl) ?_
      simp only [List.take_succ_cons, List.take_zero, List.drop_succ_cons, List.drop_zero]
      repeat (go_big_quiet_step (first | (go_at_call 18; with_reducible exact Calls.regrown_of (radd _ _ (by first | exact inn_fm _ _ | exact inn_fa _ _ | exact inn_fs _ _ | assumption) (by first | exact inn_fm _ _ | exact inn_fa _ _ | exact inn_fs _ _ | assumption) _)) | (go_at_call 17; with_reducible exact Calls.regrown_of (rmul _ _ (by first | exact inn_fm _ _ | exact inn_fa _ _ | exact inn_fs _ _ | assumption) (by first | exact inn_fm _ _ | exact inn_fa _ _ | exact inn_fs _ _ | assumption) _))))
      refine wpQuiet_nil ?_
      intro w9 hw'
      obtain ⟨⟨dq, osq⟩, hw''⟩ := hw'
      have hb := below_of hw''
      clear hw''
      have Bn := Arr.to' An hb
      have Bx := Arr.to' Ax hb
      have Ba := Arr.to' Aa hb
      have Bc := Arr.to' Ac hb
      have Bb := Arr.to' Ab hb
      have Bd := Arr.to' Ad hb
      have Bp := Arr.to' Ap hb
      have Bq := Arr.to' Aq hb
      have Bm := Arr.to' Am hb
      have Bl := Arr.to' Al hb
      have By := Arr.to' Ay hb
      have hB' := Bel.call hB hb
      clear hb rp0 rp1 rp2 rp3 rq0 rq1 rq2 rq3 An Ax Aa Ac Ab Ad Ap Aq Am Al Ay hB
      have An := Bn
      have Ax := Bx
      have Aa := Ba
      have Ac := Bc
      have Ab := Bb
      have Ad := Bd
      have Ap := Bp
      have Aq := Bq
      have Am := Bm
      have Al := Bl
      have Ay := By
      have hB := hB'
      clear Bn Bx Ba Bc Bb Bd Bp Bq Bm Bl By hB'
      have cb := Ab.c
      have zb := Ab.z
      have Bn := Arr.st4o (b' := w2.heap.size + 1 + 1 + 1) An (by have := An.lt; have := Ab.lt; omega) (fm (fa (fm (fs B D) (fa A C)) (fm (fa B D) (fs A C))) (fa (fm (fs B D) (fa A C)) (fm (fa B D) (fs A C))))
      have Bx := Arr.st4o (b' := w2.heap.size + 1 + 1 + 1) Ax (by have := Ax.lt; have := Ab.lt; omega) (fm (fa (fm (fs B D) (fa A C)) (fm (fa B D) (fs A C))) (fa (fm (fs B D) (fa A C)) (fm (fa B D) (fs A C))))
      have Ba := Arr.st4o (b' := w2.heap.size + 1 + 1 + 1) Aa (by have := Aa.lt; have := Ab.lt; omega) (fm (fa (fm (fs B D) (fa A C)) (fm (fa B D) (fs A C))) (fa (fm (fs B D) (fa A C)) (fm (fa B D) (fs A C))))
      have Bc := Arr.st4o (b' := w2.heap.size + 1 + 1 + 1) Ac (by have := Ac.lt; have := Ab.lt; omega) (fm (fa (fm (fs B D) (fa A C)) (fm (fa B D) (fs A C))) (fa (fm (fs B D) (fa A C)) (fm (fa B D) (fs A C))))
      have Bb := Arr.st4 Ab (fm (fa (fm (fs B D) (fa A C)) (fm (fa B D) (fs A C))) (fa (fm (fs B D) (fa A C)) (fm (fa B D) (fs A C))))
      have Bd := Arr.st4o (b' := w2.heap.size + 1 + 1 + 1) Ad (by have := Ad.lt; have := Ab.lt; omega) (fm (fa (fm (fs B D) (fa A C)) (fm (fa B D) (fs A C))) (fa (fm (fs B D) (fa A C)) (fm (fa B D) (fs A C))))
      have Bp := Arr.st4o (b' := w2.heap.size + 1 + 1 + 1) Ap (by have := Ap.lt; have := Ab.lt; omega) (fm (fa (fm (fs B D) (fa A C)) (fm (fa B D) (fs A C))) (fa (fm (fs B D) (fa A C)) (fm (fa B D) (fs A C))))
      have Bq := Arr.st4o (b' := w2.heap.size + 1 + 1 + 1) Aq (by have := Aq.lt; have := Ab.lt; omega) (fm (fa (fm (fs B D) (fa A C)) (fm (fa B D) (fs A C))) (fa (fm (fs B D) (fa A C)) (fm (fa B D) (fs A C))))
      have Bm := Arr.st4o (b' := w2.heap.size + 1 + 1 + 1) Am (by have := Am.lt; have := Ab.lt; omega) (fm (fa (fm (fs B D) (fa A C)) (fm (fa B D) (fs A C))) (fa (fm (fs B D) (fa A C)) (fm (fa B D) (fs A C))))
      have Bl := Arr.st4o (b' := w2.heap.size + 1 + 1 + 1) Al (by have := Al.lt; have := Ab.lt; omega) (fm (fa (fm (fs B D) (fa A C)) (fm (fa B D) (fs A C))) (fa (fm (fs B D) (fa A C)) (fm (fa B D) (fs A C))))
      have By := Arr.st4o (b' := w2.heap.size + 1 + 1 + 1) Ay (by have := Ay.lt; have := Ab.lt; omega) (fm (fa (fm (fs B D) (fa A C)) (fm (fa B D) (fs A C))) (fa (fm (fs B D) (fa A C)) (fm (fa B D) (fs A C))))
      have hB' := Bel.st4 hB (b := w2.heap.size + 1 + 1 + 1) (by have := hB.size; omega) (fm (fa (fm (fs B D) (fa A C)) (fm (fa B D) (fs A C))) (fa (fm (fs B D) (fa A C)) (fm (fa B D) (fs A C))))
      clear An Ax Aa Ac Ab Ad Ap Aq Am Al Ay hB
      have An := Bn
      have Ax := Bx
      have Aa := Ba
      have Ac := Bc
      have Ab := Bb
      have Ad := Bd
      have Ap := Bp
      have Aq := Bq
      have Am := Bm
      have Al := Bl
      have Ay := By
      have hB := hB'
      clear Bn Bx Ba Bc Bb Bd Bp Bq Bm Bl By hB'
      have rx0 := fun ds os => cell_regrown (Ax.c 0 (by omega)) ds os
      have rx1 := fun ds os => cell_regrown (Ax.c 1 (by omega)) ds os
      have rx2 := fun ds os => cell_regrown (Ax.c 2 (by omega)) ds os
      have rx3 := fun ds os => cell_regrown (Ax.c 3 (by omega)) ds os
      have rp0 := fun ds os => cell_regrown (Ap.c 0 (by omega)) ds os
      have rp1 := fun ds os => cell_regrown (Ap.c 1 (by omega)) ds os
      have rp2 := fun ds os => cell_regrown (Ap.c 2 (by omega)) ds os
      have rp3 := fun ds os => cell_regrown (Ap.c 3 (by omega)) ds os
      have rq0 := fun ds os => cell_regrown (Aq.c 0 (by omega)) ds os
      have rq1 := fun ds os => cell_regrown (Aq.c 1 (by omega)) ds os
      have rq2 := fun ds os => cell_regrown (Aq.c 2 (by omega)) ds os
      have rq3 := fun ds os => cell_regrown (Aq.c 3 (by omega)) ds os
      go_wp2_with fail
      refine wp_region_below_tail 9 (by kernel_rfl) (by kernel_rfl) ?_
      simp only [List.take_succ_cons, List.take_zero, List.drop_succ_cons, List.drop_zero]
      repeat (go_big_quiet_step (first | (go_at_call 31; with_reducible exact Calls.regrown_of (rsub _ _ (by first | exact inn_fm _ _ | exact inn_fa _ _ | exact inn_fs _ _ | assumption) (by first | exact inn_fm _ _ | exact inn_fa _ _ | exact inn_fs _ _ | assumption) _)) | (go_at_call 17; with_reducible exact Calls.regrown_of (rmul _ _ (by first | exact inn_fm _ _ | exact inn_fa _ _ | exact inn_fs _ _ | assumption) (by first | exact inn_fm _ _ | exact inn_fa _ _ | exact inn_fs _ _ | assumption) _))))
      refine wpQuiet_nil ?_
      intro w10 hw'
      obtain ⟨⟨dq, osq⟩, hw''⟩ := hw'
      have hb := below_of hw''
      clear hw''
      have Bn := Arr.to' An hb
      have Bx := Arr.to' Ax hb
      have Ba := Arr.to' Aa hb
      have Bc := Arr.to' Ac hb
      have Bb := Arr.to' Ab hb
      have Bd := Arr.to' Ad hb
      have Bm := Arr.to' Am hb
      have Bl := Arr.to' Al hb
      have By := Arr.to' Ay hb
      have hB' := Bel.call hB hb
      clear hb cb zb rx0 rx1 rx2 rx3 rp0 rp1 rp2 rp3 rq0 rq1 rq2 rq3 An Ax Aa Ac Ab Ad Ap Aq Am Al Ay hB
      have An := Bn
      have Ax := Bx
      have Aa := Ba
      have Ac := Bc
      have Ab := Bb
      have Ad := Bd
      have Am := Bm
      have Al := Bl
      have Ay := By
      have hB := hB'
      clear Bn Bx Ba Bc Bb Bd Bm Bl By hB'
      have cd := Ad.c
      have zd := Ad.z
      have Bn := Arr.st4o (b' := w2.heap.size + 1 + 1 + 1 + 1) An (by have := An.lt; have := Ad.lt; omega) (fm U (fm (fs (fm (fs B D) (fa A C)) (fm (fa B D) (fs A C))) (fs (fm (fs B D) (fa A C)) (fm (fa B D) (fs A C)))))
      have Bx := Arr.st4o (b' := w2.heap.size + 1 + 1 + 1 + 1) Ax (by have := Ax.lt; have := Ad.lt; omega) (fm U (fm (fs (fm (fs B D) (fa A C)) (fm (fa B D) (fs A C))) (fs (fm (fs B D) (fa A C)) (fm (fa B D) (fs A C)))))
      have Ba := Arr.st4o (b' := w2.heap.size + 1 + 1 + 1 + 1) Aa (by have := Aa.lt; have := Ad.lt; omega) (fm U (fm (fs (fm (fs B D) (fa A C)) (fm (fa B D) (fs A C))) (fs (fm (fs B D) (fa A C)) (fm (fa B D) (fs A C)))))
      have Bc := Arr.st4o (b' := w2.heap.size + 1 + 1 + 1 + 1) Ac (by have := Ac.lt; have := Ad.lt; omega) (fm U (fm (fs (fm (fs B D) (fa A C)) (fm (fa B D) (fs A C))) (fs (fm (fs B D) (fa A C)) (fm (fa B D) (fs A C)))))
      have Bb := Arr.st4o (b' := w2.heap.size + 1 + 1 + 1 + 1) Ab (by have := Ab.lt; have := Ad.lt; omega) (fm U (fm (fs (fm (fs B D) (fa A C)) (fm (fa B D) (fs A C))) (fs (fm (fs B D) (fa A C)) (fm (fa B D) (fs A C)))))
      have Bd := Arr.st4 Ad (fm U (fm (fs (fm (fs B D) (fa A C)) (fm (fa B D) (fs A C))) (fs (fm (fs B D) (fa A C)) (fm (fa B D) (fs A C)))))
      have Bm := Arr.st4o (b' := w2.heap.size + 1 + 1 + 1 + 1) Am (by have := Am.lt; have := Ad.lt; omega) (fm U (fm (fs (fm (fs B D) (fa A C)) (fm (fa B D) (fs A C))) (fs (fm (fs B D) (fa A C)) (fm (fa B D) (fs A C)))))
      have Bl := Arr.st4o (b' := w2.heap.size + 1 + 1 + 1 + 1) Al (by have := Al.lt; have := Ad.lt; omega) (fm U (fm (fs (fm (fs B D) (fa A C)) (fm (fa B D) (fs A C))) (fs (fm (fs B D) (fa A C)) (fm (fa B D) (fs A C)))))
      have By := Arr.st4o (b' := w2.heap.size + 1 + 1 + 1 + 1) Ay (by have := Ay.lt; have := Ad.lt; omega) (fm U (fm (fs (fm (fs B D) (fa A C)) (fm (fa B D) (fs A C))) (fs (fm (fs B D) (fa A C)) (fm (fa B D) (fs A C)))))
      have hB' := Bel.st4 hB (b := w2.heap.size + 1 + 1 + 1 + 1) (by have := hB.size; omega) (fm U (fm (fs (fm (fs B D) (fa A C)) (fm (fa B D) (fs A C))) (fs (fm (fs B D) (fa A C)) (fm (fa B D) (fs A C)))))
      clear An Ax Aa Ac Ab Ad Am Al Ay hB
      have An := Bn
      have Ax := Bx
      have Aa := Ba
      have Ac := Bc
      have Ab := Bb
      have Ad := Bd
      have Am := Bm
      have Al := Bl
      have Ay := By
      have hB := hB'
      clear Bn Bx Ba Bc Bb Bd Bm Bl By hB'
      have cm := Am.c
      have cl := Al.c
      go_wp2_with fail
      refine (rmul (fm (fa A C) (fa A C)) (fm (fs A C) (fs A C)) (inn_fm _ _) (inn_fm _ _) _).mono ?_
      rintro e w21 ⟨rfl, hb⟩
      have Bn := Arr.to' An hb
      have Bx := Arr.to' Ax hb
      have Ba := Arr.to' Aa hb
      have Bc := Arr.to' Ac hb
      have Bb := Arr.to' Ab hb
      have Bd := Arr.to' Ad hb
      have Bm := Arr.to' Am hb
      have By := Arr.to' Ay hb
      have hB' := Bel.call hB hb
      clear hb cd zd cm cl An Ax Aa Ac Ab Ad Am Al Ay hB
      have An := Bn
      have Ax := Bx
      have Aa := Ba
      have Ac := Bc
      have Ab := Bb
      have Ad := Bd
      have Am := Bm
      have Ay := By
      have hB := hB'
      clear Bn Bx Ba Bc Bb Bd Bm By hB'
      have ca := Aa.c
      have za := Aa.z
      have Bn := Arr.st4o (b' := w2.heap.size + 1) An (by have := An.lt; have := Aa.lt; omega) (fm (fm (fa A C) (fa A C)) (fm (fs A C) (fs A C)))
      have Bx := Arr.st4o (b' := w2.heap.size + 1) Ax (by have := Ax.lt; have := Aa.lt; omega) (fm (fm (fa A C) (fa A C)) (fm (fs A C) (fs A C)))
      have Ba := Arr.st4 Aa (fm (fm (fa A C) (fa A C)) (fm (fs A C) (fs A C)))
      have Bc := Arr.st4o (b' := w2.heap.size + 1) Ac (by have := Ac.lt; have := Aa.lt; omega) (fm (fm (fa A C) (fa A C)) (fm (fs A C) (fs A C)))
      have Bb := Arr.st4o (b' := w2.heap.size + 1) Ab (by have := Ab.lt; have := Aa.lt; omega) (fm (fm (fa A C) (fa A C)) (fm (fs A C) (fs A C)))
      have Bd := Arr.st4o (b' := w2.heap.size + 1) Ad (by have := Ad.lt; have := Aa.lt; omega) (fm (fm (fa A C) (fa A C)) (fm (fs A C) (fs A C)))
      have Bm := Arr.st4o (b' := w2.heap.size + 1) Am (by have := Am.lt; have := Aa.lt; omega) (fm (fm (fa A C) (fa A C)) (fm (fs A C) (fs A C)))
      have By := Arr.st4o (b' := w2.heap.size + 1) Ay (by have := Ay.lt; have := Aa.lt; omega) (fm (fm (fa A C) (fa A C)) (fm (fs A C) (fs A C)))
      have hB' := Bel.st4 hB (b := w2.heap.size + 1) (by have := hB.size; omega) (fm (fm (fa A C) (fa A C)) (fm (fs A C) (fs A C)))
      clear An Ax Aa Ac Ab Ad Am Ay hB
      have An := Bn
      have Ax := Bx
      have Aa := Ba
      have Ac := Bc
      have Ab := Bb
      have Ad := Bd
      have Am := Bm
      have Ay := By
      have hB := hB'
      clear Bn Bx Ba Bc Bb Bd Bm By hB'
      have rm0 := fun ds os => cell_regrown (Am.c 0 (by omega)) ds os
      have rm1 := fun ds os => cell_regrown (Am.c 1 (by omega)) ds os
      have rm2 := fun ds os => cell_regrown (Am.c 2 (by omega)) ds os
      have rm3 := fun ds os => cell_regrown (Am.c 3 (by omega)) ds os
      have ry0 := fun ds os => cell_regrown (Ay.c 0 (by omega)) ds os
      have ry1 := fun ds os => cell_regrown (Ay.c 1 (by omega)) ds os
      have ry2 := fun ds os => cell_regrown (Ay.c 2 (by omega)) ds os
      have ry3 := fun ds os => cell_regrown (Ay.c 3 (by omega)) ds os
      go_wp2_with fail
      refine wp_region_below_tail 7 (by kernel_rfl) (by kernel_rfl) ?_
      simp only [List.take_succ_cons, List.take_zero, List.drop_succ_cons, List.drop_zero]
      repeat (go_big_quiet_step (first | (go_at_call 18; with_reducible exact Calls.regrown_of (radd _ _ (by first | exact inn_fm _ _ | exact inn_fa _ _ | exact inn_fs _ _ | assumption) (by first | exact inn_fm _ _ | exact inn_fa _ _ | exact inn_fs _ _ | assumption) _)) | (go_at_call 17; with_reducible exact Calls.regrown_of (rmul _ _ (by first | exact inn_fm _ _ | exact inn_fa _ _ | exact inn_fs _ _ | assumption) (by first | exact inn_fm _ _ | exact inn_fa _ _ | exact inn_fs _ _ | assumption) _)) | (go_at_call 17; exact Calls.regrown_of (rmulq _ (inn_fs _ _) _))))
      refine wpQuiet_nil ?_
      intro w12 hw'
      obtain ⟨⟨dq, osq⟩, hw''⟩ := hw'
      have hb := below_of hw''
      clear hw''
      have Bn := Arr.to' An hb
      have Bx := Arr.to' Ax hb
      have Ba := Arr.to' Aa hb
      have Bc := Arr.to' Ac hb
      have Bb := Arr.to' Ab hb
      have Bd := Arr.to' Ad hb
      have hB' := Bel.call hB hb
      clear hb ca za rm0 rm1 rm2 rm3 ry0 ry1 ry2 ry3 An Ax Aa Ac Ab Ad Am Ay hB
      have An := Bn
      have Ax := Bx
      have Aa := Ba
      have Ac := Bc
      have Ab := Bb
      have Ad := Bd
      have hB := hB'
      clear Bn Bx Ba Bc Bb Bd hB'
      have ca := Aa.c
      have za := Aa.z
      have cb := Ab.c
      have zb := Ab.z
      have cc := Ac.c
      have zc := Ac.z
      have cd := Ad.c
      have zd := Ad.z
      have Bn := Arr.st4o (b' := w2.heap.size + 1 + 1) An (by have := An.lt; have := Ac.lt; omega) (fm (fs (fm (fa A C) (fa A C)) (fm (fs A C) (fs A C))) (fa (fm (fa A C) (fa A C)) (fm 121665 (fs (fm (fa A C) (fa A C)) (fm (fs A C) (fs A C))))))
      have Bx := Arr.st4o (b' := w2.heap.size + 1 + 1) Ax (by have := Ax.lt; have := Ac.lt; omega) (fm (fs (fm (fa A C) (fa A C)) (fm (fs A C) (fs A C))) (fa (fm (fa A C) (fa A C)) (fm 121665 (fs (fm (fa A C) (fa A C)) (fm (fs A C) (fs A C))))))
      have Ba := Arr.st4o (b' := w2.heap.size + 1 + 1) Aa (by have := Aa.lt; have := Ac.lt; omega) (fm (fs (fm (fa A C) (fa A C)) (fm (fs A C) (fs A C))) (fa (fm (fa A C) (fa A C)) (fm 121665 (fs (fm (fa A C) (fa A C)) (fm (fs A C) (fs A C))))))
      have Bc := Arr.st4 Ac (fm (fs (fm (fa A C) (fa A C)) (fm (fs A C) (fs A C))) (fa (fm (fa A C) (fa A C)) (fm 121665 (fs (fm (fa A C) (fa A C)) (fm (fs A C) (fs A C))))))
      have Bb := Arr.st4o (b' := w2.heap.size + 1 + 1) Ab (by have := Ab.lt; have := Ac.lt; omega) (fm (fs (fm (fa A C) (fa A C)) (fm (fs A C) (fs A C))) (fa (fm (fa A C) (fa A C)) (fm 121665 (fs (fm (fa A C) (fa A C)) (fm (fs A C) (fs A C))))))
      have Bd := Arr.st4o (b' := w2.heap.size + 1 + 1) Ad (by have := Ad.lt; have := Ac.lt; omega) (fm (fs (fm (fa A C) (fa A C)) (fm (fs A C) (fs A C))) (fa (fm (fa A C) (fa A C)) (fm 121665 (fs (fm (fa A C) (fa A C)) (fm (fs A C) (fs A C))))))
      have hB' := Bel.st4 hB (b := w2.heap.size + 1 + 1) (by have := hB.size; omega) (fm (fs (fm (fa A C) (fa A C)) (fm (fs A C) (fs A C))) (fa (fm (fa A C) (fa A C)) (fm 121665 (fs (fm (fa A C) (fa A C)) (fm (fs A C) (fs A C))))))
      clear An Ax Aa Ac Ab Ad hB
      have An := Bn
      have Ax := Bx
      have Aa := Ba
      have Ac := Bc
      have Ab := Bb
      have Ad := Bd
      have hB := hB'
      clear Bn Bx Ba Bc Bb Bd hB'
      go_wp2_with fail
      go_roundw
      case rel => exact ⟨j, _, _, _, _, by omega, by go_num, ⟨hB, ⟨h01, h12⟩, An, Ax, Aa, Ac, Ab, Ad⟩, HN⟩
      case measure => simp [intOf]
    · have HN : Hid (lsts U (upto K 255 (255 - j)) = (sb B D A C, sd B D A C U, sa B D, sc' B D)) := by
        show lsts U (upto K 255 (255 - j)) = _
        rw [show 255 - j = 255 - (j + 1) + 1 by omega, upto_succ, lsts_snoc, HS.out, show 255 - 1 - (255 - (j + 1)) = j by omega]
        have eb : bitB K j = true := by unfold bitB; simp [hbit]
        rw [eb]; rfl
      have CB : ∀ W, Calls Tryz.prog 30 #[nv K, .int .i64 (j : Int)] W fun e w' => e = .returned (.int .u64 1) ∧ Below W.heap.size W w' := fun W => by
        have := refBit_in K j (j / 64) (j % 64) (by omega) (by omega) (by omega) W
        rw [hbit] at this
        exact this
      clear HS hbit
      have cn := An.c
      go_wp2_with fail
      refine (CB _).mono ?_
      rintro e w11 ⟨rfl, hb⟩
      have Bn := Arr.to' An hb
      have Bx := Arr.to' Ax hb
      have Ba := Arr.to' Aa hb
      have Bc := Arr.to' Ac hb
      have Bb := Arr.to' Ab hb
      have Bd := Arr.to' Ad hb
      have hB' := Bel.call hB hb
      clear hb cn An Ax Aa Ac Ab Ad hB CB
      have An := Bn
      have Ax := Bx
      have Aa := Ba
      have Ac := Bc
      have Ab := Bb
      have Ad := Bd
      have hB := hB'
      clear Bn Bx Ba Bc Bb Bd hB'
      have ca := Aa.c
      have za := Aa.z
      have cb := Ab.c
      have zb := Ab.z
      have cc := Ac.c
      have zc := Ac.z
      have cd := Ad.c
      have zd := Ad.z
      have Bn := Arr.st4o (b' := w2.heap.size + 1) An (by have := An.lt; have := Aa.lt; omega) (B)
      have Bx := Arr.st4o (b' := w2.heap.size + 1) Ax (by have := Ax.lt; have := Aa.lt; omega) (B)
      have Ba := Arr.st4 Aa (B)
      have Bc := Arr.st4o (b' := w2.heap.size + 1) Ac (by have := Ac.lt; have := Aa.lt; omega) (B)
      have Bb := Arr.st4o (b' := w2.heap.size + 1) Ab (by have := Ab.lt; have := Aa.lt; omega) (B)
      have Bd := Arr.st4o (b' := w2.heap.size + 1) Ad (by have := Ad.lt; have := Aa.lt; omega) (B)
      have hB' := Bel.st4 hB (b := w2.heap.size + 1) (by have := hB.size; omega) (B)
      clear An Ax Aa Ac Ab Ad hB
      have An := Bn
      have Ax := Bx
      have Aa := Ba
      have Ac := Bc
      have Ab := Bb
      have Ad := Bd
      have hB := hB'
      clear Bn Bx Ba Bc Bb Bd hB'
      have Bn := Arr.st4o (b' := w2.heap.size + 1 + 1 + 1) An (by have := An.lt; have := Ab.lt; omega) (A)
      have Bx := Arr.st4o (b' := w2.heap.size + 1 + 1 + 1) Ax (by have := Ax.lt; have := Ab.lt; omega) (A)
      have Ba := Arr.st4o (b' := w2.heap.size + 1 + 1 + 1) Aa (by have := Aa.lt; have := Ab.lt; omega) (A)
      have Bc := Arr.st4o (b' := w2.heap.size + 1 + 1 + 1) Ac (by have := Ac.lt; have := Ab.lt; omega) (A)
      have Bb := Arr.st4 Ab (A)
      have Bd := Arr.st4o (b' := w2.heap.size + 1 + 1 + 1) Ad (by have := Ad.lt; have := Ab.lt; omega) (A)
      have hB' := Bel.st4 hB (b := w2.heap.size + 1 + 1 + 1) (by have := hB.size; omega) (A)
      clear An Ax Aa Ac Ab Ad hB
      have An := Bn
      have Ax := Bx
      have Aa := Ba
      have Ac := Bc
      have Ab := Bb
      have Ad := Bd
      have hB := hB'
      clear Bn Bx Ba Bc Bb Bd hB'
      have Bn := Arr.st4o (b' := w2.heap.size + 1 + 1) An (by have := An.lt; have := Ac.lt; omega) (D)
      have Bx := Arr.st4o (b' := w2.heap.size + 1 + 1) Ax (by have := Ax.lt; have := Ac.lt; omega) (D)
      have Ba := Arr.st4o (b' := w2.heap.size + 1 + 1) Aa (by have := Aa.lt; have := Ac.lt; omega) (D)
      have Bc := Arr.st4 Ac (D)
      have Bb := Arr.st4o (b' := w2.heap.size + 1 + 1) Ab (by have := Ab.lt; have := Ac.lt; omega) (D)
      have Bd := Arr.st4o (b' := w2.heap.size + 1 + 1) Ad (by have := Ad.lt; have := Ac.lt; omega) (D)
      have hB' := Bel.st4 hB (b := w2.heap.size + 1 + 1) (by have := hB.size; omega) (D)
      clear An Ax Aa Ac Ab Ad hB
      have An := Bn
      have Ax := Bx
      have Aa := Ba
      have Ac := Bc
      have Ab := Bb
      have Ad := Bd
      have hB := hB'
      clear Bn Bx Ba Bc Bb Bd hB'
      have Bn := Arr.st4o (b' := w2.heap.size + 1 + 1 + 1 + 1) An (by have := An.lt; have := Ad.lt; omega) (C)
      have Bx := Arr.st4o (b' := w2.heap.size + 1 + 1 + 1 + 1) Ax (by have := Ax.lt; have := Ad.lt; omega) (C)
      have Ba := Arr.st4o (b' := w2.heap.size + 1 + 1 + 1 + 1) Aa (by have := Aa.lt; have := Ad.lt; omega) (C)
      have Bc := Arr.st4o (b' := w2.heap.size + 1 + 1 + 1 + 1) Ac (by have := Ac.lt; have := Ad.lt; omega) (C)
      have Bb := Arr.st4o (b' := w2.heap.size + 1 + 1 + 1 + 1) Ab (by have := Ab.lt; have := Ad.lt; omega) (C)
      have Bd := Arr.st4 Ad (C)
      have hB' := Bel.st4 hB (b := w2.heap.size + 1 + 1 + 1 + 1) (by have := hB.size; omega) (C)
      clear An Ax Aa Ac Ab Ad hB
      have An := Bn
      have Ax := Bx
      have Aa := Ba
      have Ac := Bc
      have Ab := Bb
      have Ad := Bd
      have hB := hB'
      clear Bn Bx Ba Bc Bb Bd hB'
      go_wp2_with fail
      refine (radd B D iB iD _).mono ?_
      rintro e w12 ⟨rfl, hb⟩
      have Bn := Arr.to' An hb
      have Bx := Arr.to' Ax hb
      have Ba := Arr.to' Aa hb
      have Bc := Arr.to' Ac hb
      have Bb := Arr.to' Ab hb
      have Bd := Arr.to' Ad hb
      have hB' := Bel.call hB hb
      clear hb ca za cb zb cc zc cd zd An Ax Aa Ac Ab Ad hB
      have An := Bn
      have Ax := Bx
      have Aa := Ba
      have Ac := Bc
      have Ab := Bb
      have Ad := Bd
      have hB := hB'
      clear Bn Bx Ba Bc Bb Bd hB'
      have ln_1 := An.lt
      have lx_1 := Ax.lt
      have la_1 := Aa.lt
      have lc_1 := Ac.lt
      have lb_1 := Ab.lt
      have ld_1 := Ad.lt
      have lB_1 := hB.size
      have Bn := (Arr.al' An (.cells #[.int .u64 (lim (fa B D) 0), .int .u64 (lim (fa B D) 1), .int .u64 (lim (fa B D) 2), .int .u64 (lim (fa B D) 3)] 34))
      have Bx := (Arr.al' Ax (.cells #[.int .u64 (lim (fa B D) 0), .int .u64 (lim (fa B D) 1), .int .u64 (lim (fa B D) 2), .int .u64 (lim (fa B D) 3)] 34))
      have Ba := (Arr.al' Aa (.cells #[.int .u64 (lim (fa B D) 0), .int .u64 (lim (fa B D) 1), .int .u64 (lim (fa B D) 2), .int .u64 (lim (fa B D) 3)] 34))
      have Bc := (Arr.al' Ac (.cells #[.int .u64 (lim (fa B D) 0), .int .u64 (lim (fa B D) 1), .int .u64 (lim (fa B D) 2), .int .u64 (lim (fa B D) 3)] 34))
      have Bb := (Arr.al' Ab (.cells #[.int .u64 (lim (fa B D) 0), .int .u64 (lim (fa B D) 1), .int .u64 (lim (fa B D) 2), .int .u64 (lim (fa B D) 3)] 34))
      have Bd := (Arr.al' Ad (.cells #[.int .u64 (lim (fa B D) 0), .int .u64 (lim (fa B D) 1), .int .u64 (lim (fa B D) 2), .int .u64 (lim (fa B D) 3)] 34))
      have Bs := Arr.mk4 (w := (w12.alloc (.cells #[.int .u64 (lim (fa B D) 0), .int .u64 (lim (fa B D) 1), .int .u64 (lim (fa B D) 2), .int .u64 (lim (fa B D) 3)] 34))) (f := fun j => .int .u64 (lim (fa B D) j)) (b := w12.heap.size) (by simp [go_sem]) (by simp [go_sem]) (by simp [go_sem]) (by simp [go_sem]) (by simp [go_sem]) (by simp [go_sem]) (by simp [go_sem]) (by simp [go_sem])
      have hB' := (Bel.al hB (.cells #[.int .u64 (lim (fa B D) 0), .int .u64 (lim (fa B D) 1), .int .u64 (lim (fa B D) 2), .int .u64 (lim (fa B D) 3)] 34))
      clear An Ax Aa Ac Ab Ad hB
      have An := Bn
      have Ax := Bx
      have Aa := Ba
      have Ac := Bc
      have Ab := Bb
      have Ad := Bd
      have As := Bs
      have hB := hB'
      clear Bn Bx Ba Bc Bb Bd Bs hB'
      have ca := Aa.c
      have cc := Ac.c
      go_wp2_with fail
      refine (rsub B D iB iD _).mono ?_
      rintro e w13 ⟨rfl, hb⟩
      have Bn := Arr.to' An hb
      have Bx := Arr.to' Ax hb
      have Ba := Arr.to' Aa hb
      have Bc := Arr.to' Ac hb
      have Bb := Arr.to' Ab hb
      have Bd := Arr.to' Ad hb
      have Bs := Arr.to' As hb
      have hB' := Bel.call hB hb
      clear hb ca cc An Ax Aa Ac Ab Ad As hB
      have An := Bn
      have Ax := Bx
      have Aa := Ba
      have Ac := Bc
      have Ab := Bb
      have Ad := Bd
      have As := Bs
      have hB := hB'
      clear Bn Bx Ba Bc Bb Bd Bs hB'
      have ln_2 := An.lt
      have lx_2 := Ax.lt
      have la_2 := Aa.lt
      have lc_2 := Ac.lt
      have lb_2 := Ab.lt
      have ld_2 := Ad.lt
      have ls_2 := As.lt
      have lB_2 := hB.size
      have Bn := (Arr.al' An (.cells #[.int .u64 (lim (fs B D) 0), .int .u64 (lim (fs B D) 1), .int .u64 (lim (fs B D) 2), .int .u64 (lim (fs B D) 3)] 34))
      have Bx := (Arr.al' Ax (.cells #[.int .u64 (lim (fs B D) 0), .int .u64 (lim (fs B D) 1), .int .u64 (lim (fs B D) 2), .int .u64 (lim (fs B D) 3)] 34))
      have Ba := (Arr.al' Aa (.cells #[.int .u64 (lim (fs B D) 0), .int .u64 (lim (fs B D) 1), .int .u64 (lim (fs B D) 2), .int .u64 (lim (fs B D) 3)] 34))
      have Bc := (Arr.al' Ac (.cells #[.int .u64 (lim (fs B D) 0), .int .u64 (lim (fs B D) 1), .int .u64 (lim (fs B D) 2), .int .u64 (lim (fs B D) 3)] 34))
      have Bb := (Arr.al' Ab (.cells #[.int .u64 (lim (fs B D) 0), .int .u64 (lim (fs B D) 1), .int .u64 (lim (fs B D) 2), .int .u64 (lim (fs B D) 3)] 34))
      have Bd := (Arr.al' Ad (.cells #[.int .u64 (lim (fs B D) 0), .int .u64 (lim (fs B D) 1), .int .u64 (lim (fs B D) 2), .int .u64 (lim (fs B D) 3)] 34))
      have Bs := (Arr.al' As (.cells #[.int .u64 (lim (fs B D) 0), .int .u64 (lim (fs B D) 1), .int .u64 (lim (fs B D) 2), .int .u64 (lim (fs B D) 3)] 34))
      have Bt := Arr.mk4 (w := (w13.alloc (.cells #[.int .u64 (lim (fs B D) 0), .int .u64 (lim (fs B D) 1), .int .u64 (lim (fs B D) 2), .int .u64 (lim (fs B D) 3)] 34))) (f := fun j => .int .u64 (lim (fs B D) j)) (b := w13.heap.size) (by simp [go_sem]) (by simp [go_sem]) (by simp [go_sem]) (by simp [go_sem]) (by simp [go_sem]) (by simp [go_sem]) (by simp [go_sem]) (by simp [go_sem])
      have hB' := (Bel.al hB (.cells #[.int .u64 (lim (fs B D) 0), .int .u64 (lim (fs B D) 1), .int .u64 (lim (fs B D) 2), .int .u64 (lim (fs B D) 3)] 34))
      clear An Ax Aa Ac Ab Ad As hB
      have An := Bn
      have Ax := Bx
      have Aa := Ba
      have Ac := Bc
      have Ab := Bb
      have Ad := Bd
      have As := Bs
      have At := Bt
      have hB := hB'
      clear Bn Bx Ba Bc Bb Bd Bs Bt hB'
      go_wp2_with fail
      apply wp_region_alloc_tail 5 (by kernel_rfl) (by kernel_rfl) (by kernel_rfl) (.cells #[.int .u64 0, .int .u64 0, .int .u64 0, .int .u64 0] 34) _ rfl (fun _ _ => by simp [go_sem])
      · intro W hW
        have rb0 := fun ds os => cell_regrown ((Arr.to' Ab hW).c 0 (by omega)) ds os
        have rb1 := fun ds os => cell_regrown ((Arr.to' Ab hW).c 1 (by omega)) ds os
        have rb2 := fun ds os => cell_regrown ((Arr.to' Ab hW).c 2 (by omega)) ds os
        have rb3 := fun ds os => cell_regrown ((Arr.to' Ab hW).c 3 (by omega)) ds os
        have rd0 := fun ds os => cell_regrown ((Arr.to' Ad hW).c 0 (by omega)) ds os
        have rd1 := fun ds os => cell_regrown ((Arr.to' Ad hW).c 1 (by omega)) ds os
        have rd2 := fun ds os => cell_regrown ((Arr.to' Ad hW).c 2 (by omega)) ds os
        have rd3 := fun ds os => cell_regrown ((Arr.to' Ad hW).c 3 (by omega)) ds os
        have rs0 := fun ds os => cell_regrown ((Arr.to' As hW).c 0 (by omega)) ds os
        have rs1 := fun ds os => cell_regrown ((Arr.to' As hW).c 1 (by omega)) ds os
        have rs2 := fun ds os => cell_regrown ((Arr.to' As hW).c 2 (by omega)) ds os
        have rs3 := fun ds os => cell_regrown ((Arr.to' As hW).c 3 (by omega)) ds os
        simp only [List.take_succ_cons, List.take_zero]
        repeat (go_big_quiet_step (first | (go_at_call 31; with_reducible exact Calls.regrown_of (rsub _ _ (by first | exact inn_fm _ _ | exact inn_fa _ _ | exact inn_fs _ _ | assumption) (by first | exact inn_fm _ _ | exact inn_fa _ _ | exact inn_fs _ _ | assumption) _)) | (go_at_call 17; with_reducible exact Calls.regrown_of (rmul _ _ (by first | exact inn_fm _ _ | exact inn_fa _ _ | exact inn_fs _ _ | assumption) (by first | exact inn_fm _ _ | exact inn_fa _ _ | exact inn_fs _ _ | assumption) _))))
        exact wpQuiet_nil rfl
      intro u4 w14 hb1 hb2
      simp only [List.drop_succ_cons, List.drop_zero, Act.put, List.setIfInBounds_toArray, List.set_cons_succ, List.set_cons_zero]
      have En := Arr.to' An hb1
      have ln_u4 := En.lt
      have Bn := Arr.to' (Arr.al' En (.cells #[.int .u64 0, .int .u64 0, .int .u64 0, .int .u64 0] 34)) hb2
      have Ex := Arr.to' Ax hb1
      have lx_u4 := Ex.lt
      have Bx := Arr.to' (Arr.al' Ex (.cells #[.int .u64 0, .int .u64 0, .int .u64 0, .int .u64 0] 34)) hb2
      have Ea := Arr.to' Aa hb1
      have la_u4 := Ea.lt
      have Ba := Arr.to' (Arr.al' Ea (.cells #[.int .u64 0, .int .u64 0, .int .u64 0, .int .u64 0] 34)) hb2
      have Ec := Arr.to' Ac hb1
      have lc_u4 := Ec.lt
      have Bc := Arr.to' (Arr.al' Ec (.cells #[.int .u64 0, .int .u64 0, .int .u64 0, .int .u64 0] 34)) hb2
      have Eb := Arr.to' Ab hb1
      have lb_u4 := Eb.lt
      have Bb := Arr.to' (Arr.al' Eb (.cells #[.int .u64 0, .int .u64 0, .int .u64 0, .int .u64 0] 34)) hb2
      have Ed := Arr.to' Ad hb1
      have ld_u4 := Ed.lt
      have Bd := Arr.to' (Arr.al' Ed (.cells #[.int .u64 0, .int .u64 0, .int .u64 0, .int .u64 0] 34)) hb2
      have Es := Arr.to' As hb1
      have ls_u4 := Es.lt
      have Bs := Arr.to' (Arr.al' Es (.cells #[.int .u64 0, .int .u64 0, .int .u64 0, .int .u64 0] 34)) hb2
      have Et := Arr.to' At hb1
      have lt_u4 := Et.lt
      have Bt := Arr.to' (Arr.al' Et (.cells #[.int .u64 0, .int .u64 0, .int .u64 0, .int .u64 0] 34)) hb2
      have Bp := (Arr.mk4 (w := (u4.alloc (.cells #[.int .u64 0, .int .u64 0, .int .u64 0, .int .u64 0] 34))) (f := fun _ => .int .u64 0) (b := u4.heap.size) (by simp [go_sem]) (by simp [go_sem]) (by simp [go_sem]) (by simp [go_sem]) (by simp [go_sem]) (by simp [go_sem]) (by simp [go_sem]) (by simp [go_sem])).below hb2 (by go_size)
      have lB_u4 := (Bel.call hB hb1).size
      have hB' := Bel.call (Bel.al (Bel.call hB hb1) (.cells #[.int .u64 0, .int .u64 0, .int .u64 0, .int .u64 0] 34)) hb2
      clear hb1 hb2 En Ex Ea Ec Eb Ed Es Et An Ax Aa Ac Ab Ad As At hB
      have An := Bn
      have Ax := Bx
      have Aa := Ba
      have Ac := Bc
      have Ab := Bb
      have Ad := Bd
      have As := Bs
      have At := Bt
      have Ap := Bp
      have hB := hB'
      clear Bn Bx Ba Bc Bb Bd Bs Bt Bp hB'
      have cp := Ap.c
      have zp := Ap.z
      have Bn := Arr.st4o (b' := u4.heap.size) An (by have := An.lt; have := Ap.lt; omega) (fm (fs A C) (fa B D))
      have Bx := Arr.st4o (b' := u4.heap.size) Ax (by have := Ax.lt; have := Ap.lt; omega) (fm (fs A C) (fa B D))
      have Ba := Arr.st4o (b' := u4.heap.size) Aa (by have := Aa.lt; have := Ap.lt; omega) (fm (fs A C) (fa B D))
      have Bc := Arr.st4o (b' := u4.heap.size) Ac (by have := Ac.lt; have := Ap.lt; omega) (fm (fs A C) (fa B D))
      have Bb := Arr.st4o (b' := u4.heap.size) Ab (by have := Ab.lt; have := Ap.lt; omega) (fm (fs A C) (fa B D))
      have Bd := Arr.st4o (b' := u4.heap.size) Ad (by have := Ad.lt; have := Ap.lt; omega) (fm (fs A C) (fa B D))
      have Bs := Arr.st4o (b' := u4.heap.size) As (by have := As.lt; have := Ap.lt; omega) (fm (fs A C) (fa B D))
      have Bt := Arr.st4o (b' := u4.heap.size) At (by have := At.lt; have := Ap.lt; omega) (fm (fs A C) (fa B D))
      have Bp := Arr.st4 Ap (fm (fs A C) (fa B D))
      have hB' := Bel.st4 hB (b := u4.heap.size) (by have := hB.size; omega) (fm (fs A C) (fa B D))
      clear An Ax Aa Ac Ab Ad As At Ap hB
      have An := Bn
      have Ax := Bx
      have Aa := Ba
      have Ac := Bc
      have Ab := Bb
      have Ad := Bd
      have As := Bs
      have At := Bt
      have Ap := Bp
      have hB := hB'
      clear Bn Bx Ba Bc Bb Bd Bs Bt Bp hB'
      go_wp2_with fail
      apply wp_region_alloc_tail 5 (by kernel_rfl) (by kernel_rfl) (by kernel_rfl) (.cells #[.int .u64 0, .int .u64 0, .int .u64 0, .int .u64 0] 34) _ rfl (fun _ _ => by simp [go_sem])
      · intro W hW
        have rb0 := fun ds os => cell_regrown ((Arr.to' Ab hW).c 0 (by omega)) ds os
        have rb1 := fun ds os => cell_regrown ((Arr.to' Ab hW).c 1 (by omega)) ds os
        have rb2 := fun ds os => cell_regrown ((Arr.to' Ab hW).c 2 (by omega)) ds os
        have rb3 := fun ds os => cell_regrown ((Arr.to' Ab hW).c 3 (by omega)) ds os
        have rd0 := fun ds os => cell_regrown ((Arr.to' Ad hW).c 0 (by omega)) ds os
        have rd1 := fun ds os => cell_regrown ((Arr.to' Ad hW).c 1 (by omega)) ds os
        have rd2 := fun ds os => cell_regrown ((Arr.to' Ad hW).c 2 (by omega)) ds os
        have rd3 := fun ds os => cell_regrown ((Arr.to' Ad hW).c 3 (by omega)) ds os
        have rt0 := fun ds os => cell_regrown ((Arr.to' At hW).c 0 (by omega)) ds os
        have rt1 := fun ds os => cell_regrown ((Arr.to' At hW).c 1 (by omega)) ds os
        have rt2 := fun ds os => cell_regrown ((Arr.to' At hW).c 2 (by omega)) ds os
        have rt3 := fun ds os => cell_regrown ((Arr.to' At hW).c 3 (by omega)) ds os
        simp only [List.take_succ_cons, List.take_zero]
        repeat (go_big_quiet_step (first | (go_at_call 18; with_reducible exact Calls.regrown_of (radd _ _ (by first | exact inn_fm _ _ | exact inn_fa _ _ | exact inn_fs _ _ | assumption) (by first | exact inn_fm _ _ | exact inn_fa _ _ | exact inn_fs _ _ | assumption) _)) | (go_at_call 17; with_reducible exact Calls.regrown_of (rmul _ _ (by first | exact inn_fm _ _ | exact inn_fa _ _ | exact inn_fs _ _ | assumption) (by first | exact inn_fm _ _ | exact inn_fa _ _ | exact inn_fs _ _ | assumption) _))))
        exact wpQuiet_nil rfl
      intro u5 w15 hb1 hb2
      simp only [List.drop_succ_cons, List.drop_zero, Act.put, List.setIfInBounds_toArray, List.set_cons_succ, List.set_cons_zero]
      have En := Arr.to' An hb1
      have ln_u5 := En.lt
      have Bn := Arr.to' (Arr.al' En (.cells #[.int .u64 0, .int .u64 0, .int .u64 0, .int .u64 0] 34)) hb2
      have Ex := Arr.to' Ax hb1
      have lx_u5 := Ex.lt
      have Bx := Arr.to' (Arr.al' Ex (.cells #[.int .u64 0, .int .u64 0, .int .u64 0, .int .u64 0] 34)) hb2
      have Ea := Arr.to' Aa hb1
      have la_u5 := Ea.lt
      have Ba := Arr.to' (Arr.al' Ea (.cells #[.int .u64 0, .int .u64 0, .int .u64 0, .int .u64 0] 34)) hb2
      have Ec := Arr.to' Ac hb1
      have lc_u5 := Ec.lt
      have Bc := Arr.to' (Arr.al' Ec (.cells #[.int .u64 0, .int .u64 0, .int .u64 0, .int .u64 0] 34)) hb2
      have Eb := Arr.to' Ab hb1
      have lb_u5 := Eb.lt
      have Bb := Arr.to' (Arr.al' Eb (.cells #[.int .u64 0, .int .u64 0, .int .u64 0, .int .u64 0] 34)) hb2
      have Ed := Arr.to' Ad hb1
      have ld_u5 := Ed.lt
      have Bd := Arr.to' (Arr.al' Ed (.cells #[.int .u64 0, .int .u64 0, .int .u64 0, .int .u64 0] 34)) hb2
      have Es := Arr.to' As hb1
      have ls_u5 := Es.lt
      have Bs := Arr.to' (Arr.al' Es (.cells #[.int .u64 0, .int .u64 0, .int .u64 0, .int .u64 0] 34)) hb2
      have Et := Arr.to' At hb1
      have lt_u5 := Et.lt
      have Bt := Arr.to' (Arr.al' Et (.cells #[.int .u64 0, .int .u64 0, .int .u64 0, .int .u64 0] 34)) hb2
      have Ep := Arr.to' Ap hb1
      have lp_u5 := Ep.lt
      have Bp := Arr.to' (Arr.al' Ep (.cells #[.int .u64 0, .int .u64 0, .int .u64 0, .int .u64 0] 34)) hb2
      have Bq := (Arr.mk4 (w := (u5.alloc (.cells #[.int .u64 0, .int .u64 0, .int .u64 0, .int .u64 0] 34))) (f := fun _ => .int .u64 0) (b := u5.heap.size) (by simp [go_sem]) (by simp [go_sem]) (by simp [go_sem]) (by simp [go_sem]) (by simp [go_sem]) (by simp [go_sem]) (by simp [go_sem]) (by simp [go_sem])).below hb2 (by go_size)
      have lB_u5 := (Bel.call hB hb1).size
      have hB' := Bel.call (Bel.al (Bel.call hB hb1) (.cells #[.int .u64 0, .int .u64 0, .int .u64 0, .int .u64 0] 34)) hb2
      clear hb1 hb2 En Ex Ea Ec Eb Ed Es Et Ep An Ax Aa Ac Ab Ad As At Ap hB
      have An := Bn
      have Ax := Bx
      have Aa := Ba
      have Ac := Bc
      have Ab := Bb
      have Ad := Bd
      have As := Bs
      have At := Bt
      have Ap := Bp
      have Aq := Bq
      have hB := hB'
      clear Bn Bx Ba Bc Bb Bd Bs Bt Bp Bq hB'
      have cq := Aq.c
      have zq := Aq.z
      have Bn := Arr.st4o (b' := u5.heap.size) An (by have := An.lt; have := Aq.lt; omega) (fm (fa A C) (fs B D))
      have Bx := Arr.st4o (b' := u5.heap.size) Ax (by have := Ax.lt; have := Aq.lt; omega) (fm (fa A C) (fs B D))
      have Ba := Arr.st4o (b' := u5.heap.size) Aa (by have := Aa.lt; have := Aq.lt; omega) (fm (fa A C) (fs B D))
      have Bc := Arr.st4o (b' := u5.heap.size) Ac (by have := Ac.lt; have := Aq.lt; omega) (fm (fa A C) (fs B D))
      have Bb := Arr.st4o (b' := u5.heap.size) Ab (by have := Ab.lt; have := Aq.lt; omega) (fm (fa A C) (fs B D))
      have Bd := Arr.st4o (b' := u5.heap.size) Ad (by have := Ad.lt; have := Aq.lt; omega) (fm (fa A C) (fs B D))
      have Bs := Arr.st4o (b' := u5.heap.size) As (by have := As.lt; have := Aq.lt; omega) (fm (fa A C) (fs B D))
      have Bt := Arr.st4o (b' := u5.heap.size) At (by have := At.lt; have := Aq.lt; omega) (fm (fa A C) (fs B D))
      have Bp := Arr.st4o (b' := u5.heap.size) Ap (by have := Ap.lt; have := Aq.lt; omega) (fm (fa A C) (fs B D))
      have Bq := Arr.st4 Aq (fm (fa A C) (fs B D))
      have hB' := Bel.st4 hB (b := u5.heap.size) (by have := hB.size; omega) (fm (fa A C) (fs B D))
      clear An Ax Aa Ac Ab Ad As At Ap Aq hB
      have An := Bn
      have Ax := Bx
      have Aa := Ba
      have Ac := Bc
      have Ab := Bb
      have Ad := Bd
      have As := Bs
      have At := Bt
      have Ap := Bp
      have Aq := Bq
      have hB := hB'
      clear Bn Bx Ba Bc Bb Bd Bs Bt Bp Bq hB'
      have cs := As.c
      go_wp2_with fail
      refine (rmul (fa B D) (fa B D) (inn_fa _ _) (inn_fa _ _) _).mono ?_
      rintro e w16 ⟨rfl, hb⟩
      have Bn := Arr.to' An hb
      have Bx := Arr.to' Ax hb
      have Ba := Arr.to' Aa hb
      have Bc := Arr.to' Ac hb
      have Bb := Arr.to' Ab hb
      have Bd := Arr.to' Ad hb
      have Bt := Arr.to' At hb
      have Bp := Arr.to' Ap hb
      have Bq := Arr.to' Aq hb
      have hB' := Bel.call hB hb
      clear hb cq zq cs An Ax Aa Ac Ab Ad As At Ap Aq hB
      have An := Bn
      have Ax := Bx
      have Aa := Ba
      have Ac := Bc
      have Ab := Bb
      have Ad := Bd
      have At := Bt
      have Ap := Bp
      have Aq := Bq
      have hB := hB'
      clear Bn Bx Ba Bc Bb Bd Bt Bp Bq hB'
      have ln_3 := An.lt
      have lx_3 := Ax.lt
      have la_3 := Aa.lt
      have lc_3 := Ac.lt
      have lb_3 := Ab.lt
      have ld_3 := Ad.lt
      have lt_3 := At.lt
      have lp_3 := Ap.lt
      have lq_3 := Aq.lt
      have lB_3 := hB.size
      have Bn := (Arr.al' An (.cells #[.int .u64 (lim (fm (fa B D) (fa B D)) 0), .int .u64 (lim (fm (fa B D) (fa B D)) 1), .int .u64 (lim (fm (fa B D) (fa B D)) 2), .int .u64 (lim (fm (fa B D) (fa B D)) 3)] 34))
      have Bx := (Arr.al' Ax (.cells #[.int .u64 (lim (fm (fa B D) (fa B D)) 0), .int .u64 (lim (fm (fa B D) (fa B D)) 1), .int .u64 (lim (fm (fa B D) (fa B D)) 2), .int .u64 (lim (fm (fa B D) (fa B D)) 3)] 34))
      have Ba := (Arr.al' Aa (.cells #[.int .u64 (lim (fm (fa B D) (fa B D)) 0), .int .u64 (lim (fm (fa B D) (fa B D)) 1), .int .u64 (lim (fm (fa B D) (fa B D)) 2), .int .u64 (lim (fm (fa B D) (fa B D)) 3)] 34))
      have Bc := (Arr.al' Ac (.cells #[.int .u64 (lim (fm (fa B D) (fa B D)) 0), .int .u64 (lim (fm (fa B D) (fa B D)) 1), .int .u64 (lim (fm (fa B D) (fa B D)) 2), .int .u64 (lim (fm (fa B D) (fa B D)) 3)] 34))
      have Bb := (Arr.al' Ab (.cells #[.int .u64 (lim (fm (fa B D) (fa B D)) 0), .int .u64 (lim (fm (fa B D) (fa B D)) 1), .int .u64 (lim (fm (fa B D) (fa B D)) 2), .int .u64 (lim (fm (fa B D) (fa B D)) 3)] 34))
      have Bd := (Arr.al' Ad (.cells #[.int .u64 (lim (fm (fa B D) (fa B D)) 0), .int .u64 (lim (fm (fa B D) (fa B D)) 1), .int .u64 (lim (fm (fa B D) (fa B D)) 2), .int .u64 (lim (fm (fa B D) (fa B D)) 3)] 34))
      have Bt := (Arr.al' At (.cells #[.int .u64 (lim (fm (fa B D) (fa B D)) 0), .int .u64 (lim (fm (fa B D) (fa B D)) 1), .int .u64 (lim (fm (fa B D) (fa B D)) 2), .int .u64 (lim (fm (fa B D) (fa B D)) 3)] 34))
      have Bp := (Arr.al' Ap (.cells #[.int .u64 (lim (fm (fa B D) (fa B D)) 0), .int .u64 (lim (fm (fa B D) (fa B D)) 1), .int .u64 (lim (fm (fa B D) (fa B D)) 2), .int .u64 (lim (fm (fa B D) (fa B D)) 3)] 34))
      have Bq := (Arr.al' Aq (.cells #[.int .u64 (lim (fm (fa B D) (fa B D)) 0), .int .u64 (lim (fm (fa B D) (fa B D)) 1), .int .u64 (lim (fm (fa B D) (fa B D)) 2), .int .u64 (lim (fm (fa B D) (fa B D)) 3)] 34))
      have Bm := Arr.mk4 (w := (w16.alloc (.cells #[.int .u64 (lim (fm (fa B D) (fa B D)) 0), .int .u64 (lim (fm (fa B D) (fa B D)) 1), .int .u64 (lim (fm (fa B D) (fa B D)) 2), .int .u64 (lim (fm (fa B D) (fa B D)) 3)] 34))) (f := fun j => .int .u64 (lim (fm (fa B D) (fa B D)) j)) (b := w16.heap.size) (by simp [go_sem]) (by simp [go_sem]) (by simp [go_sem]) (by simp [go_sem]) (by simp [go_sem]) (by simp [go_sem]) (by simp [go_sem]) (by simp [go_sem])
      have hB' := (Bel.al hB (.cells #[.int .u64 (lim (fm (fa B D) (fa B D)) 0), .int .u64 (lim (fm (fa B D) (fa B D)) 1), .int .u64 (lim (fm (fa B D) (fa B D)) 2), .int .u64 (lim (fm (fa B D) (fa B D)) 3)] 34))
      clear An Ax Aa Ac Ab Ad At Ap Aq hB
      have An := Bn
      have Ax := Bx
      have Aa := Ba
      have Ac := Bc
      have Ab := Bb
      have Ad := Bd
      have At := Bt
      have Ap := Bp
      have Aq := Bq
      have Am := Bm
      have hB := hB'
      clear Bn Bx Ba Bc Bb Bd Bt Bp Bq Bm hB'
      have ct := At.c
      go_wp2_with fail
      refine (rmul (fs B D) (fs B D) (inn_fs _ _) (inn_fs _ _) _).mono ?_
      rintro e w17 ⟨rfl, hb⟩
      have Bn := Arr.to' An hb
      have Bx := Arr.to' Ax hb
      have Ba := Arr.to' Aa hb
      have Bc := Arr.to' Ac hb
      have Bb := Arr.to' Ab hb
      have Bd := Arr.to' Ad hb
      have Bp := Arr.to' Ap hb
      have Bq := Arr.to' Aq hb
      have Bm := Arr.to' Am hb
      have hB' := Bel.call hB hb
      clear hb ct An Ax Aa Ac Ab Ad At Ap Aq Am hB
      have An := Bn
      have Ax := Bx
      have Aa := Ba
      have Ac := Bc
      have Ab := Bb
      have Ad := Bd
      have Ap := Bp
      have Aq := Bq
      have Am := Bm
      have hB := hB'
      clear Bn Bx Ba Bc Bb Bd Bp Bq Bm hB'
      have ln_4 := An.lt
      have lx_4 := Ax.lt
      have la_4 := Aa.lt
      have lc_4 := Ac.lt
      have lb_4 := Ab.lt
      have ld_4 := Ad.lt
      have lp_4 := Ap.lt
      have lq_4 := Aq.lt
      have lm_4 := Am.lt
      have lB_4 := hB.size
      have Bn := (Arr.al' An (.cells #[.int .u64 (lim (fm (fs B D) (fs B D)) 0), .int .u64 (lim (fm (fs B D) (fs B D)) 1), .int .u64 (lim (fm (fs B D) (fs B D)) 2), .int .u64 (lim (fm (fs B D) (fs B D)) 3)] 34))
      have Bx := (Arr.al' Ax (.cells #[.int .u64 (lim (fm (fs B D) (fs B D)) 0), .int .u64 (lim (fm (fs B D) (fs B D)) 1), .int .u64 (lim (fm (fs B D) (fs B D)) 2), .int .u64 (lim (fm (fs B D) (fs B D)) 3)] 34))
      have Ba := (Arr.al' Aa (.cells #[.int .u64 (lim (fm (fs B D) (fs B D)) 0), .int .u64 (lim (fm (fs B D) (fs B D)) 1), .int .u64 (lim (fm (fs B D) (fs B D)) 2), .int .u64 (lim (fm (fs B D) (fs B D)) 3)] 34))
      have Bc := (Arr.al' Ac (.cells #[.int .u64 (lim (fm (fs B D) (fs B D)) 0), .int .u64 (lim (fm (fs B D) (fs B D)) 1), .int .u64 (lim (fm (fs B D) (fs B D)) 2), .int .u64 (lim (fm (fs B D) (fs B D)) 3)] 34))
      have Bb := (Arr.al' Ab (.cells #[.int .u64 (lim (fm (fs B D) (fs B D)) 0), .int .u64 (lim (fm (fs B D) (fs B D)) 1), .int .u64 (lim (fm (fs B D) (fs B D)) 2), .int .u64 (lim (fm (fs B D) (fs B D)) 3)] 34))
      have Bd := (Arr.al' Ad (.cells #[.int .u64 (lim (fm (fs B D) (fs B D)) 0), .int .u64 (lim (fm (fs B D) (fs B D)) 1), .int .u64 (lim (fm (fs B D) (fs B D)) 2), .int .u64 (lim (fm (fs B D) (fs B D)) 3)] 34))
      have Bp := (Arr.al' Ap (.cells #[.int .u64 (lim (fm (fs B D) (fs B D)) 0), .int .u64 (lim (fm (fs B D) (fs B D)) 1), .int .u64 (lim (fm (fs B D) (fs B D)) 2), .int .u64 (lim (fm (fs B D) (fs B D)) 3)] 34))
      have Bq := (Arr.al' Aq (.cells #[.int .u64 (lim (fm (fs B D) (fs B D)) 0), .int .u64 (lim (fm (fs B D) (fs B D)) 1), .int .u64 (lim (fm (fs B D) (fs B D)) 2), .int .u64 (lim (fm (fs B D) (fs B D)) 3)] 34))
      have Bm := (Arr.al' Am (.cells #[.int .u64 (lim (fm (fs B D) (fs B D)) 0), .int .u64 (lim (fm (fs B D) (fs B D)) 1), .int .u64 (lim (fm (fs B D) (fs B D)) 2), .int .u64 (lim (fm (fs B D) (fs B D)) 3)] 34))
      have Bl := Arr.mk4 (w := (w17.alloc (.cells #[.int .u64 (lim (fm (fs B D) (fs B D)) 0), .int .u64 (lim (fm (fs B D) (fs B D)) 1), .int .u64 (lim (fm (fs B D) (fs B D)) 2), .int .u64 (lim (fm (fs B D) (fs B D)) 3)] 34))) (f := fun j => .int .u64 (lim (fm (fs B D) (fs B D)) j)) (b := w17.heap.size) (by simp [go_sem]) (by simp [go_sem]) (by simp [go_sem]) (by simp [go_sem]) (by simp [go_sem]) (by simp [go_sem]) (by simp [go_sem]) (by simp [go_sem])
      have hB' := (Bel.al hB (.cells #[.int .u64 (lim (fm (fs B D) (fs B D)) 0), .int .u64 (lim (fm (fs B D) (fs B D)) 1), .int .u64 (lim (fm (fs B D) (fs B D)) 2), .int .u64 (lim (fm (fs B D) (fs B D)) 3)] 34))
      clear An Ax Aa Ac Ab Ad Ap Aq Am hB
      have An := Bn
      have Ax := Bx
      have Aa := Ba
      have Ac := Bc
      have Ab := Bb
      have Ad := Bd
      have Ap := Bp
      have Aq := Bq
      have Am := Bm
      have Al := Bl
      have hB := hB'
      clear Bn Bx Ba Bc Bb Bd Bp Bq Bm Bl hB'
      have cm := Am.c
      go_wp2_with fail
      refine (rsub (fm (fa B D) (fa B D)) (fm (fs B D) (fs B D)) (inn_fm _ _) (inn_fm _ _) _).mono ?_
      rintro e w18 ⟨rfl, hb⟩
      have Bn := Arr.to' An hb
      have Bx := Arr.to' Ax hb
      have Ba := Arr.to' Aa hb
      have Bc := Arr.to' Ac hb
      have Bb := Arr.to' Ab hb
      have Bd := Arr.to' Ad hb
      have Bp := Arr.to' Ap hb
      have Bq := Arr.to' Aq hb
      have Bm := Arr.to' Am hb
      have Bl := Arr.to' Al hb
      have hB' := Bel.call hB hb
      clear hb cm An Ax Aa Ac Ab Ad Ap Aq Am Al hB
      have An := Bn
      have Ax := Bx
      have Aa := Ba
      have Ac := Bc
      have Ab := Bb
      have Ad := Bd
      have Ap := Bp
      have Aq := Bq
      have Am := Bm
      have Al := Bl
      have hB := hB'
      clear Bn Bx Ba Bc Bb Bd Bp Bq Bm Bl hB'
      have ln_5 := An.lt
      have lx_5 := Ax.lt
      have la_5 := Aa.lt
      have lc_5 := Ac.lt
      have lb_5 := Ab.lt
      have ld_5 := Ad.lt
      have lp_5 := Ap.lt
      have lq_5 := Aq.lt
      have lm_5 := Am.lt
      have ll_5 := Al.lt
      have lB_5 := hB.size
      have Bn := (Arr.al' An (.cells #[.int .u64 (lim (fs (fm (fa B D) (fa B D)) (fm (fs B D) (fs B D))) 0), .int .u64 (lim (fs (fm (fa B D) (fa B D)) (fm (fs B D) (fs B D))) 1), .int .u64 (lim (fs (fm (fa B D) (fa B D)) (fm (fs B D) (fs B D))) 2), .int .u64 (lim (fs (fm (fa B D) (fa B D)) (fm (fs B D) (fs B D))) 3)] 34))
      have Bx := (Arr.al' Ax (.cells #[.int .u64 (lim (fs (fm (fa B D) (fa B D)) (fm (fs B D) (fs B D))) 0), .int .u64 (lim (fs (fm (fa B D) (fa B D)) (fm (fs B D) (fs B D))) 1), .int .u64 (lim (fs (fm (fa B D) (fa B D)) (fm (fs B D) (fs B D))) 2), .int .u64 (lim (fs (fm (fa B D) (fa B D)) (fm (fs B D) (fs B D))) 3)] 34))
      have Ba := (Arr.al' Aa (.cells #[.int .u64 (lim (fs (fm (fa B D) (fa B D)) (fm (fs B D) (fs B D))) 0), .int .u64 (lim (fs (fm (fa B D) (fa B D)) (fm (fs B D) (fs B D))) 1), .int .u64 (lim (fs (fm (fa B D) (fa B D)) (fm (fs B D) (fs B D))) 2), .int .u64 (lim (fs (fm (fa B D) (fa B D)) (fm (fs B D) (fs B D))) 3)] 34))
      have Bc := (Arr.al' Ac (.cells #[.int .u64 (lim (fs (fm (fa B D) (fa B D)) (fm (fs B D) (fs B D))) 0), .int .u64 (lim (fs (fm (fa B D) (fa B D)) (fm (fs B D) (fs B D))) 1), .int .u64 (lim (fs (fm (fa B D) (fa B D)) (fm (fs B D) (fs B D))) 2), .int .u64 (lim (fs (fm (fa B D) (fa B D)) (fm (fs B D) (fs B D))) 3)] 34))
      have Bb := (Arr.al' Ab (.cells #[.int .u64 (lim (fs (fm (fa B D) (fa B D)) (fm (fs B D) (fs B D))) 0), .int .u64 (lim (fs (fm (fa B D) (fa B D)) (fm (fs B D) (fs B D))) 1), .int .u64 (lim (fs (fm (fa B D) (fa B D)) (fm (fs B D) (fs B D))) 2), .int .u64 (lim (fs (fm (fa B D) (fa B D)) (fm (fs B D) (fs B D))) 3)] 34))
      have Bd := (Arr.al' Ad (.cells #[.int .u64 (lim (fs (fm (fa B D) (fa B D)) (fm (fs B D) (fs B D))) 0), .int .u64 (lim (fs (fm (fa B D) (fa B D)) (fm (fs B D) (fs B D))) 1), .int .u64 (lim (fs (fm (fa B D) (fa B D)) (fm (fs B D) (fs B D))) 2), .int .u64 (lim (fs (fm (fa B D) (fa B D)) (fm (fs B D) (fs B D))) 3)] 34))
      have Bp := (Arr.al' Ap (.cells #[.int .u64 (lim (fs (fm (fa B D) (fa B D)) (fm (fs B D) (fs B D))) 0), .int .u64 (lim (fs (fm (fa B D) (fa B D)) (fm (fs B D) (fs B D))) 1), .int .u64 (lim (fs (fm (fa B D) (fa B D)) (fm (fs B D) (fs B D))) 2), .int .u64 (lim (fs (fm (fa B D) (fa B D)) (fm (fs B D) (fs B D))) 3)] 34))
      have Bq := (Arr.al' Aq (.cells #[.int .u64 (lim (fs (fm (fa B D) (fa B D)) (fm (fs B D) (fs B D))) 0), .int .u64 (lim (fs (fm (fa B D) (fa B D)) (fm (fs B D) (fs B D))) 1), .int .u64 (lim (fs (fm (fa B D) (fa B D)) (fm (fs B D) (fs B D))) 2), .int .u64 (lim (fs (fm (fa B D) (fa B D)) (fm (fs B D) (fs B D))) 3)] 34))
      have Bm := (Arr.al' Am (.cells #[.int .u64 (lim (fs (fm (fa B D) (fa B D)) (fm (fs B D) (fs B D))) 0), .int .u64 (lim (fs (fm (fa B D) (fa B D)) (fm (fs B D) (fs B D))) 1), .int .u64 (lim (fs (fm (fa B D) (fa B D)) (fm (fs B D) (fs B D))) 2), .int .u64 (lim (fs (fm (fa B D) (fa B D)) (fm (fs B D) (fs B D))) 3)] 34))
      have Bl := (Arr.al' Al (.cells #[.int .u64 (lim (fs (fm (fa B D) (fa B D)) (fm (fs B D) (fs B D))) 0), .int .u64 (lim (fs (fm (fa B D) (fa B D)) (fm (fs B D) (fs B D))) 1), .int .u64 (lim (fs (fm (fa B D) (fa B D)) (fm (fs B D) (fs B D))) 2), .int .u64 (lim (fs (fm (fa B D) (fa B D)) (fm (fs B D) (fs B D))) 3)] 34))
      have By := Arr.mk4 (w := (w18.alloc (.cells #[.int .u64 (lim (fs (fm (fa B D) (fa B D)) (fm (fs B D) (fs B D))) 0), .int .u64 (lim (fs (fm (fa B D) (fa B D)) (fm (fs B D) (fs B D))) 1), .int .u64 (lim (fs (fm (fa B D) (fa B D)) (fm (fs B D) (fs B D))) 2), .int .u64 (lim (fs (fm (fa B D) (fa B D)) (fm (fs B D) (fs B D))) 3)] 34))) (f := fun j => .int .u64 (lim (fs (fm (fa B D) (fa B D)) (fm (fs B D) (fs B D))) j)) (b := w18.heap.size) (by simp [go_sem]) (by simp [go_sem]) (by simp [go_sem]) (by simp [go_sem]) (by simp [go_sem]) (by simp [go_sem]) (by simp [go_sem]) (by simp [go_sem])
      have hB' := (Bel.al hB (.cells #[.int .u64 (lim (fs (fm (fa B D) (fa B D)) (fm (fs B D) (fs B D))) 0), .int .u64 (lim (fs (fm (fa B D) (fa B D)) (fm (fs B D) (fs B D))) 1), .int .u64 (lim (fs (fm (fa B D) (fa B D)) (fm (fs B D) (fs B D))) 2), .int .u64 (lim (fs (fm (fa B D) (fa B D)) (fm (fs B D) (fs B D))) 3)] 34))
      clear An Ax Aa Ac Ab Ad Ap Aq Am Al hB
      have An := Bn
      have Ax := Bx
      have Aa := Ba
      have Ac := Bc
      have Ab := Bb
      have Ad := Bd
      have Ap := Bp
      have Aq := Bq
      have Am := Bm
      have Al := Bl
      have Ay := By
      have hB := hB'
      clear Bn Bx Ba Bc Bb Bd Bp Bq Bm Bl By hB'
      have rp0 := fun ds os => cell_regrown (Ap.c 0 (by omega)) ds os
      have rp1 := fun ds os => cell_regrown (Ap.c 1 (by omega)) ds os
      have rp2 := fun ds os => cell_regrown (Ap.c 2 (by omega)) ds os
      have rp3 := fun ds os => cell_regrown (Ap.c 3 (by omega)) ds os
      have rq0 := fun ds os => cell_regrown (Aq.c 0 (by omega)) ds os
      have rq1 := fun ds os => cell_regrown (Aq.c 1 (by omega)) ds os
      have rq2 := fun ds os => cell_regrown (Aq.c 2 (by omega)) ds os
      have rq3 := fun ds os => cell_regrown (Aq.c 3 (by omega)) ds os
      go_wp2_with fail
      refine wp_region_below_tail 7 (by kernel_rfl) (by kernel_rfl) ?_
      simp only [List.take_succ_cons, List.take_zero, List.drop_succ_cons, List.drop_zero]
      repeat (go_big_quiet_step (first | (go_at_call 18; with_reducible exact Calls.regrown_of (radd _ _ (by first | exact inn_fm _ _ | exact inn_fa _ _ | exact inn_fs _ _ | assumption) (by first | exact inn_fm _ _ | exact inn_fa _ _ | exact inn_fs _ _ | assumption) _)) | (go_at_call 17; with_reducible exact Calls.regrown_of (rmul _ _ (by first | exact inn_fm _ _ | exact inn_fa _ _ | exact inn_fs _ _ | assumption) (by first | exact inn_fm _ _ | exact inn_fa _ _ | exact inn_fs _ _ | assumption) _))))
      refine wpQuiet_nil ?_
      intro w9 hw'
      obtain ⟨⟨dq, osq⟩, hw''⟩ := hw'
      have hb := below_of hw''
      clear hw''
      have Bn := Arr.to' An hb
      have Bx := Arr.to' Ax hb
      have Ba := Arr.to' Aa hb
      have Bc := Arr.to' Ac hb
      have Bb := Arr.to' Ab hb
      have Bd := Arr.to' Ad hb
      have Bp := Arr.to' Ap hb
      have Bq := Arr.to' Aq hb
      have Bm := Arr.to' Am hb
      have Bl := Arr.to' Al hb
      have By := Arr.to' Ay hb
      have hB' := Bel.call hB hb
      clear hb rp0 rp1 rp2 rp3 rq0 rq1 rq2 rq3 An Ax Aa Ac Ab Ad Ap Aq Am Al Ay hB
      have An := Bn
      have Ax := Bx
      have Aa := Ba
      have Ac := Bc
      have Ab := Bb
      have Ad := Bd
      have Ap := Bp
      have Aq := Bq
      have Am := Bm
      have Al := Bl
      have Ay := By
      have hB := hB'
      clear Bn Bx Ba Bc Bb Bd Bp Bq Bm Bl By hB'
      have cb := Ab.c
      have zb := Ab.z
      have Bn := Arr.st4o (b' := w2.heap.size + 1 + 1 + 1) An (by have := An.lt; have := Ab.lt; omega) (fm (fa (fm (fs A C) (fa B D)) (fm (fa A C) (fs B D))) (fa (fm (fs A C) (fa B D)) (fm (fa A C) (fs B D))))
      have Bx := Arr.st4o (b' := w2.heap.size + 1 + 1 + 1) Ax (by have := Ax.lt; have := Ab.lt; omega) (fm (fa (fm (fs A C) (fa B D)) (fm (fa A C) (fs B D))) (fa (fm (fs A C) (fa B D)) (fm (fa A C) (fs B D))))
      have Ba := Arr.st4o (b' := w2.heap.size + 1 + 1 + 1) Aa (by have := Aa.lt; have := Ab.lt; omega) (fm (fa (fm (fs A C) (fa B D)) (fm (fa A C) (fs B D))) (fa (fm (fs A C) (fa B D)) (fm (fa A C) (fs B D))))
      have Bc := Arr.st4o (b' := w2.heap.size + 1 + 1 + 1) Ac (by have := Ac.lt; have := Ab.lt; omega) (fm (fa (fm (fs A C) (fa B D)) (fm (fa A C) (fs B D))) (fa (fm (fs A C) (fa B D)) (fm (fa A C) (fs B D))))
      have Bb := Arr.st4 Ab (fm (fa (fm (fs A C) (fa B D)) (fm (fa A C) (fs B D))) (fa (fm (fs A C) (fa B D)) (fm (fa A C) (fs B D))))
      have Bd := Arr.st4o (b' := w2.heap.size + 1 + 1 + 1) Ad (by have := Ad.lt; have := Ab.lt; omega) (fm (fa (fm (fs A C) (fa B D)) (fm (fa A C) (fs B D))) (fa (fm (fs A C) (fa B D)) (fm (fa A C) (fs B D))))
      have Bp := Arr.st4o (b' := w2.heap.size + 1 + 1 + 1) Ap (by have := Ap.lt; have := Ab.lt; omega) (fm (fa (fm (fs A C) (fa B D)) (fm (fa A C) (fs B D))) (fa (fm (fs A C) (fa B D)) (fm (fa A C) (fs B D))))
      have Bq := Arr.st4o (b' := w2.heap.size + 1 + 1 + 1) Aq (by have := Aq.lt; have := Ab.lt; omega) (fm (fa (fm (fs A C) (fa B D)) (fm (fa A C) (fs B D))) (fa (fm (fs A C) (fa B D)) (fm (fa A C) (fs B D))))
      have Bm := Arr.st4o (b' := w2.heap.size + 1 + 1 + 1) Am (by have := Am.lt; have := Ab.lt; omega) (fm (fa (fm (fs A C) (fa B D)) (fm (fa A C) (fs B D))) (fa (fm (fs A C) (fa B D)) (fm (fa A C) (fs B D))))
      have Bl := Arr.st4o (b' := w2.heap.size + 1 + 1 + 1) Al (by have := Al.lt; have := Ab.lt; omega) (fm (fa (fm (fs A C) (fa B D)) (fm (fa A C) (fs B D))) (fa (fm (fs A C) (fa B D)) (fm (fa A C) (fs B D))))
      have By := Arr.st4o (b' := w2.heap.size + 1 + 1 + 1) Ay (by have := Ay.lt; have := Ab.lt; omega) (fm (fa (fm (fs A C) (fa B D)) (fm (fa A C) (fs B D))) (fa (fm (fs A C) (fa B D)) (fm (fa A C) (fs B D))))
      have hB' := Bel.st4 hB (b := w2.heap.size + 1 + 1 + 1) (by have := hB.size; omega) (fm (fa (fm (fs A C) (fa B D)) (fm (fa A C) (fs B D))) (fa (fm (fs A C) (fa B D)) (fm (fa A C) (fs B D))))
      clear An Ax Aa Ac Ab Ad Ap Aq Am Al Ay hB
      have An := Bn
      have Ax := Bx
      have Aa := Ba
      have Ac := Bc
      have Ab := Bb
      have Ad := Bd
      have Ap := Bp
      have Aq := Bq
      have Am := Bm
      have Al := Bl
      have Ay := By
      have hB := hB'
      clear Bn Bx Ba Bc Bb Bd Bp Bq Bm Bl By hB'
      have rx0 := fun ds os => cell_regrown (Ax.c 0 (by omega)) ds os
      have rx1 := fun ds os => cell_regrown (Ax.c 1 (by omega)) ds os
      have rx2 := fun ds os => cell_regrown (Ax.c 2 (by omega)) ds os
      have rx3 := fun ds os => cell_regrown (Ax.c 3 (by omega)) ds os
      have rp0 := fun ds os => cell_regrown (Ap.c 0 (by omega)) ds os
      have rp1 := fun ds os => cell_regrown (Ap.c 1 (by omega)) ds os
      have rp2 := fun ds os => cell_regrown (Ap.c 2 (by omega)) ds os
      have rp3 := fun ds os => cell_regrown (Ap.c 3 (by omega)) ds os
      have rq0 := fun ds os => cell_regrown (Aq.c 0 (by omega)) ds os
      have rq1 := fun ds os => cell_regrown (Aq.c 1 (by omega)) ds os
      have rq2 := fun ds os => cell_regrown (Aq.c 2 (by omega)) ds os
      have rq3 := fun ds os => cell_regrown (Aq.c 3 (by omega)) ds os
      go_wp2_with fail
      refine wp_region_below_tail 9 (by kernel_rfl) (by kernel_rfl) ?_
      simp only [List.take_succ_cons, List.take_zero, List.drop_succ_cons, List.drop_zero]
      repeat (go_big_quiet_step (first | (go_at_call 31; with_reducible exact Calls.regrown_of (rsub _ _ (by first | exact inn_fm _ _ | exact inn_fa _ _ | exact inn_fs _ _ | assumption) (by first | exact inn_fm _ _ | exact inn_fa _ _ | exact inn_fs _ _ | assumption) _)) | (go_at_call 17; with_reducible exact Calls.regrown_of (rmul _ _ (by first | exact inn_fm _ _ | exact inn_fa _ _ | exact inn_fs _ _ | assumption) (by first | exact inn_fm _ _ | exact inn_fa _ _ | exact inn_fs _ _ | assumption) _))))
      refine wpQuiet_nil ?_
      intro w10 hw'
      obtain ⟨⟨dq, osq⟩, hw''⟩ := hw'
      have hb := below_of hw''
      clear hw''
      have Bn := Arr.to' An hb
      have Bx := Arr.to' Ax hb
      have Ba := Arr.to' Aa hb
      have Bc := Arr.to' Ac hb
      have Bb := Arr.to' Ab hb
      have Bd := Arr.to' Ad hb
      have Bm := Arr.to' Am hb
      have Bl := Arr.to' Al hb
      have By := Arr.to' Ay hb
      have hB' := Bel.call hB hb
      clear hb cb zb rx0 rx1 rx2 rx3 rp0 rp1 rp2 rp3 rq0 rq1 rq2 rq3 An Ax Aa Ac Ab Ad Ap Aq Am Al Ay hB
      have An := Bn
      have Ax := Bx
      have Aa := Ba
      have Ac := Bc
      have Ab := Bb
      have Ad := Bd
      have Am := Bm
      have Al := Bl
      have Ay := By
      have hB := hB'
      clear Bn Bx Ba Bc Bb Bd Bm Bl By hB'
      have cd := Ad.c
      have zd := Ad.z
      have Bn := Arr.st4o (b' := w2.heap.size + 1 + 1 + 1 + 1) An (by have := An.lt; have := Ad.lt; omega) (fm U (fm (fs (fm (fs A C) (fa B D)) (fm (fa A C) (fs B D))) (fs (fm (fs A C) (fa B D)) (fm (fa A C) (fs B D)))))
      have Bx := Arr.st4o (b' := w2.heap.size + 1 + 1 + 1 + 1) Ax (by have := Ax.lt; have := Ad.lt; omega) (fm U (fm (fs (fm (fs A C) (fa B D)) (fm (fa A C) (fs B D))) (fs (fm (fs A C) (fa B D)) (fm (fa A C) (fs B D)))))
      have Ba := Arr.st4o (b' := w2.heap.size + 1 + 1 + 1 + 1) Aa (by have := Aa.lt; have := Ad.lt; omega) (fm U (fm (fs (fm (fs A C) (fa B D)) (fm (fa A C) (fs B D))) (fs (fm (fs A C) (fa B D)) (fm (fa A C) (fs B D)))))
      have Bc := Arr.st4o (b' := w2.heap.size + 1 + 1 + 1 + 1) Ac (by have := Ac.lt; have := Ad.lt; omega) (fm U (fm (fs (fm (fs A C) (fa B D)) (fm (fa A C) (fs B D))) (fs (fm (fs A C) (fa B D)) (fm (fa A C) (fs B D)))))
      have Bb := Arr.st4o (b' := w2.heap.size + 1 + 1 + 1 + 1) Ab (by have := Ab.lt; have := Ad.lt; omega) (fm U (fm (fs (fm (fs A C) (fa B D)) (fm (fa A C) (fs B D))) (fs (fm (fs A C) (fa B D)) (fm (fa A C) (fs B D)))))
      have Bd := Arr.st4 Ad (fm U (fm (fs (fm (fs A C) (fa B D)) (fm (fa A C) (fs B D))) (fs (fm (fs A C) (fa B D)) (fm (fa A C) (fs B D)))))
      have Bm := Arr.st4o (b' := w2.heap.size + 1 + 1 + 1 + 1) Am (by have := Am.lt; have := Ad.lt; omega) (fm U (fm (fs (fm (fs A C) (fa B D)) (fm (fa A C) (fs B D))) (fs (fm (fs A C) (fa B D)) (fm (fa A C) (fs B D)))))
      have Bl := Arr.st4o (b' := w2.heap.size + 1 + 1 + 1 + 1) Al (by have := Al.lt; have := Ad.lt; omega) (fm U (fm (fs (fm (fs A C) (fa B D)) (fm (fa A C) (fs B D))) (fs (fm (fs A C) (fa B D)) (fm (fa A C) (fs B D)))))
      have By := Arr.st4o (b' := w2.heap.size + 1 + 1 + 1 + 1) Ay (by have := Ay.lt; have := Ad.lt; omega) (fm U (fm (fs (fm (fs A C) (fa B D)) (fm (fa A C) (fs B D))) (fs (fm (fs A C) (fa B D)) (fm (fa A C) (fs B D)))))
      have hB' := Bel.st4 hB (b := w2.heap.size + 1 + 1 + 1 + 1) (by have := hB.size; omega) (fm U (fm (fs (fm (fs A C) (fa B D)) (fm (fa A C) (fs B D))) (fs (fm (fs A C) (fa B D)) (fm (fa A C) (fs B D)))))
      clear An Ax Aa Ac Ab Ad Am Al Ay hB
      have An := Bn
      have Ax := Bx
      have Aa := Ba
      have Ac := Bc
      have Ab := Bb
      have Ad := Bd
      have Am := Bm
      have Al := Bl
      have Ay := By
      have hB := hB'
      clear Bn Bx Ba Bc Bb Bd Bm Bl By hB'
      have cm := Am.c
      have cl := Al.c
      go_wp2_with fail
      refine (rmul (fm (fa B D) (fa B D)) (fm (fs B D) (fs B D)) (inn_fm _ _) (inn_fm _ _) _).mono ?_
      rintro e w21 ⟨rfl, hb⟩
      have Bn := Arr.to' An hb
      have Bx := Arr.to' Ax hb
      have Ba := Arr.to' Aa hb
      have Bc := Arr.to' Ac hb
      have Bb := Arr.to' Ab hb
      have Bd := Arr.to' Ad hb
      have Bm := Arr.to' Am hb
      have By := Arr.to' Ay hb
      have hB' := Bel.call hB hb
      clear hb cd zd cm cl An Ax Aa Ac Ab Ad Am Al Ay hB
      have An := Bn
      have Ax := Bx
      have Aa := Ba
      have Ac := Bc
      have Ab := Bb
      have Ad := Bd
      have Am := Bm
      have Ay := By
      have hB := hB'
      clear Bn Bx Ba Bc Bb Bd Bm By hB'
      have ca := Aa.c
      have za := Aa.z
      have Bn := Arr.st4o (b' := w2.heap.size + 1) An (by have := An.lt; have := Aa.lt; omega) (fm (fm (fa B D) (fa B D)) (fm (fs B D) (fs B D)))
      have Bx := Arr.st4o (b' := w2.heap.size + 1) Ax (by have := Ax.lt; have := Aa.lt; omega) (fm (fm (fa B D) (fa B D)) (fm (fs B D) (fs B D)))
      have Ba := Arr.st4 Aa (fm (fm (fa B D) (fa B D)) (fm (fs B D) (fs B D)))
      have Bc := Arr.st4o (b' := w2.heap.size + 1) Ac (by have := Ac.lt; have := Aa.lt; omega) (fm (fm (fa B D) (fa B D)) (fm (fs B D) (fs B D)))
      have Bb := Arr.st4o (b' := w2.heap.size + 1) Ab (by have := Ab.lt; have := Aa.lt; omega) (fm (fm (fa B D) (fa B D)) (fm (fs B D) (fs B D)))
      have Bd := Arr.st4o (b' := w2.heap.size + 1) Ad (by have := Ad.lt; have := Aa.lt; omega) (fm (fm (fa B D) (fa B D)) (fm (fs B D) (fs B D)))
      have Bm := Arr.st4o (b' := w2.heap.size + 1) Am (by have := Am.lt; have := Aa.lt; omega) (fm (fm (fa B D) (fa B D)) (fm (fs B D) (fs B D)))
      have By := Arr.st4o (b' := w2.heap.size + 1) Ay (by have := Ay.lt; have := Aa.lt; omega) (fm (fm (fa B D) (fa B D)) (fm (fs B D) (fs B D)))
      have hB' := Bel.st4 hB (b := w2.heap.size + 1) (by have := hB.size; omega) (fm (fm (fa B D) (fa B D)) (fm (fs B D) (fs B D)))
      clear An Ax Aa Ac Ab Ad Am Ay hB
      have An := Bn
      have Ax := Bx
      have Aa := Ba
      have Ac := Bc
      have Ab := Bb
      have Ad := Bd
      have Am := Bm
      have Ay := By
      have hB := hB'
      clear Bn Bx Ba Bc Bb Bd Bm By hB'
      have rm0 := fun ds os => cell_regrown (Am.c 0 (by omega)) ds os
      have rm1 := fun ds os => cell_regrown (Am.c 1 (by omega)) ds os
      have rm2 := fun ds os => cell_regrown (Am.c 2 (by omega)) ds os
      have rm3 := fun ds os => cell_regrown (Am.c 3 (by omega)) ds os
      have ry0 := fun ds os => cell_regrown (Ay.c 0 (by omega)) ds os
      have ry1 := fun ds os => cell_regrown (Ay.c 1 (by omega)) ds os
      have ry2 := fun ds os => cell_regrown (Ay.c 2 (by omega)) ds os
      have ry3 := fun ds os => cell_regrown (Ay.c 3 (by omega)) ds os
      go_wp2_with fail
      refine wp_region_below_tail 7 (by kernel_rfl) (by kernel_rfl) ?_
      simp only [List.take_succ_cons, List.take_zero, List.drop_succ_cons, List.drop_zero]
      repeat (go_big_quiet_step (first | (go_at_call 18; with_reducible exact Calls.regrown_of (radd _ _ (by first | exact inn_fm _ _ | exact inn_fa _ _ | exact inn_fs _ _ | assumption) (by first | exact inn_fm _ _ | exact inn_fa _ _ | exact inn_fs _ _ | assumption) _)) | (go_at_call 17; with_reducible exact Calls.regrown_of (rmul _ _ (by first | exact inn_fm _ _ | exact inn_fa _ _ | exact inn_fs _ _ | assumption) (by first | exact inn_fm _ _ | exact inn_fa _ _ | exact inn_fs _ _ | assumption) _)) | (go_at_call 17; exact Calls.regrown_of (rmulq _ (inn_fs _ _) _))))
      refine wpQuiet_nil ?_
      intro w12 hw'
      obtain ⟨⟨dq, osq⟩, hw''⟩ := hw'
      have hb := below_of hw''
      clear hw''
      have Bn := Arr.to' An hb
      have Bx := Arr.to' Ax hb
      have Ba := Arr.to' Aa hb
      have Bc := Arr.to' Ac hb
      have Bb := Arr.to' Ab hb
      have Bd := Arr.to' Ad hb
      have hB' := Bel.call hB hb
      clear hb ca za rm0 rm1 rm2 rm3 ry0 ry1 ry2 ry3 An Ax Aa Ac Ab Ad Am Ay hB
      have An := Bn
      have Ax := Bx
      have Aa := Ba
      have Ac := Bc
      have Ab := Bb
      have Ad := Bd
      have hB := hB'
      clear Bn Bx Ba Bc Bb Bd hB'
      have ca := Aa.c
      have za := Aa.z
      have cb := Ab.c
      have zb := Ab.z
      have cc := Ac.c
      have zc := Ac.z
      have cd := Ad.c
      have zd := Ad.z
      have Bn := Arr.st4o (b' := w2.heap.size + 1 + 1) An (by have := An.lt; have := Ac.lt; omega) (fm (fs (fm (fa B D) (fa B D)) (fm (fs B D) (fs B D))) (fa (fm (fa B D) (fa B D)) (fm 121665 (fs (fm (fa B D) (fa B D)) (fm (fs B D) (fs B D))))))
      have Bx := Arr.st4o (b' := w2.heap.size + 1 + 1) Ax (by have := Ax.lt; have := Ac.lt; omega) (fm (fs (fm (fa B D) (fa B D)) (fm (fs B D) (fs B D))) (fa (fm (fa B D) (fa B D)) (fm 121665 (fs (fm (fa B D) (fa B D)) (fm (fs B D) (fs B D))))))
      have Ba := Arr.st4o (b' := w2.heap.size + 1 + 1) Aa (by have := Aa.lt; have := Ac.lt; omega) (fm (fs (fm (fa B D) (fa B D)) (fm (fs B D) (fs B D))) (fa (fm (fa B D) (fa B D)) (fm 121665 (fs (fm (fa B D) (fa B D)) (fm (fs B D) (fs B D))))))
      have Bc := Arr.st4 Ac (fm (fs (fm (fa B D) (fa B D)) (fm (fs B D) (fs B D))) (fa (fm (fa B D) (fa B D)) (fm 121665 (fs (fm (fa B D) (fa B D)) (fm (fs B D) (fs B D))))))
      have Bb := Arr.st4o (b' := w2.heap.size + 1 + 1) Ab (by have := Ab.lt; have := Ac.lt; omega) (fm (fs (fm (fa B D) (fa B D)) (fm (fs B D) (fs B D))) (fa (fm (fa B D) (fa B D)) (fm 121665 (fs (fm (fa B D) (fa B D)) (fm (fs B D) (fs B D))))))
      have Bd := Arr.st4o (b' := w2.heap.size + 1 + 1) Ad (by have := Ad.lt; have := Ac.lt; omega) (fm (fs (fm (fa B D) (fa B D)) (fm (fs B D) (fs B D))) (fa (fm (fa B D) (fa B D)) (fm 121665 (fs (fm (fa B D) (fa B D)) (fm (fs B D) (fs B D))))))
      have hB' := Bel.st4 hB (b := w2.heap.size + 1 + 1) (by have := hB.size; omega) (fm (fs (fm (fa B D) (fa B D)) (fm (fs B D) (fs B D))) (fa (fm (fa B D) (fa B D)) (fm 121665 (fs (fm (fa B D) (fa B D)) (fm (fs B D) (fs B D))))))
      clear An Ax Aa Ac Ab Ad hB
      have An := Bn
      have Ax := Bx
      have Aa := Ba
      have Ac := Bc
      have Ab := Bb
      have Ad := Bd
      have hB := hB'
      clear Bn Bx Ba Bc Bb Bd hB'
      have Bn := Arr.st4o (b' := w2.heap.size + 1) An (by have := An.lt; have := Aa.lt; omega) (fm (fa (fm (fs A C) (fa B D)) (fm (fa A C) (fs B D))) (fa (fm (fs A C) (fa B D)) (fm (fa A C) (fs B D))))
      have Bx := Arr.st4o (b' := w2.heap.size + 1) Ax (by have := Ax.lt; have := Aa.lt; omega) (fm (fa (fm (fs A C) (fa B D)) (fm (fa A C) (fs B D))) (fa (fm (fs A C) (fa B D)) (fm (fa A C) (fs B D))))
      have Ba := Arr.st4 Aa (fm (fa (fm (fs A C) (fa B D)) (fm (fa A C) (fs B D))) (fa (fm (fs A C) (fa B D)) (fm (fa A C) (fs B D))))
      have Bc := Arr.st4o (b' := w2.heap.size + 1) Ac (by have := Ac.lt; have := Aa.lt; omega) (fm (fa (fm (fs A C) (fa B D)) (fm (fa A C) (fs B D))) (fa (fm (fs A C) (fa B D)) (fm (fa A C) (fs B D))))
      have Bb := Arr.st4o (b' := w2.heap.size + 1) Ab (by have := Ab.lt; have := Aa.lt; omega) (fm (fa (fm (fs A C) (fa B D)) (fm (fa A C) (fs B D))) (fa (fm (fs A C) (fa B D)) (fm (fa A C) (fs B D))))
      have Bd := Arr.st4o (b' := w2.heap.size + 1) Ad (by have := Ad.lt; have := Aa.lt; omega) (fm (fa (fm (fs A C) (fa B D)) (fm (fa A C) (fs B D))) (fa (fm (fs A C) (fa B D)) (fm (fa A C) (fs B D))))
      have hB' := Bel.st4 hB (b := w2.heap.size + 1) (by have := hB.size; omega) (fm (fa (fm (fs A C) (fa B D)) (fm (fa A C) (fs B D))) (fa (fm (fs A C) (fa B D)) (fm (fa A C) (fs B D))))
      clear An Ax Aa Ac Ab Ad hB
      have An := Bn
      have Ax := Bx
      have Aa := Ba
      have Ac := Bc
      have Ab := Bb
      have Ad := Bd
      have hB := hB'
      clear Bn Bx Ba Bc Bb Bd hB'
      have Bn := Arr.st4o (b' := w2.heap.size + 1 + 1 + 1) An (by have := An.lt; have := Ab.lt; omega) (fm (fm (fa B D) (fa B D)) (fm (fs B D) (fs B D)))
      have Bx := Arr.st4o (b' := w2.heap.size + 1 + 1 + 1) Ax (by have := Ax.lt; have := Ab.lt; omega) (fm (fm (fa B D) (fa B D)) (fm (fs B D) (fs B D)))
      have Ba := Arr.st4o (b' := w2.heap.size + 1 + 1 + 1) Aa (by have := Aa.lt; have := Ab.lt; omega) (fm (fm (fa B D) (fa B D)) (fm (fs B D) (fs B D)))
      have Bc := Arr.st4o (b' := w2.heap.size + 1 + 1 + 1) Ac (by have := Ac.lt; have := Ab.lt; omega) (fm (fm (fa B D) (fa B D)) (fm (fs B D) (fs B D)))
      have Bb := Arr.st4 Ab (fm (fm (fa B D) (fa B D)) (fm (fs B D) (fs B D)))
      have Bd := Arr.st4o (b' := w2.heap.size + 1 + 1 + 1) Ad (by have := Ad.lt; have := Ab.lt; omega) (fm (fm (fa B D) (fa B D)) (fm (fs B D) (fs B D)))
      have hB' := Bel.st4 hB (b := w2.heap.size + 1 + 1 + 1) (by have := hB.size; omega) (fm (fm (fa B D) (fa B D)) (fm (fs B D) (fs B D)))
      clear An Ax Aa Ac Ab Ad hB
      have An := Bn
      have Ax := Bx
      have Aa := Ba
      have Ac := Bc
      have Ab := Bb
      have Ad := Bd
      have hB := hB'
      clear Bn Bx Ba Bc Bb Bd hB'
      have Bn := Arr.st4o (b' := w2.heap.size + 1 + 1) An (by have := An.lt; have := Ac.lt; omega) (fm U (fm (fs (fm (fs A C) (fa B D)) (fm (fa A C) (fs B D))) (fs (fm (fs A C) (fa B D)) (fm (fa A C) (fs B D)))))
      have Bx := Arr.st4o (b' := w2.heap.size + 1 + 1) Ax (by have := Ax.lt; have := Ac.lt; omega) (fm U (fm (fs (fm (fs A C) (fa B D)) (fm (fa A C) (fs B D))) (fs (fm (fs A C) (fa B D)) (fm (fa A C) (fs B D)))))
      have Ba := Arr.st4o (b' := w2.heap.size + 1 + 1) Aa (by have := Aa.lt; have := Ac.lt; omega) (fm U (fm (fs (fm (fs A C) (fa B D)) (fm (fa A C) (fs B D))) (fs (fm (fs A C) (fa B D)) (fm (fa A C) (fs B D)))))
      have Bc := Arr.st4 Ac (fm U (fm (fs (fm (fs A C) (fa B D)) (fm (fa A C) (fs B D))) (fs (fm (fs A C) (fa B D)) (fm (fa A C) (fs B D)))))
      have Bb := Arr.st4o (b' := w2.heap.size + 1 + 1) Ab (by have := Ab.lt; have := Ac.lt; omega) (fm U (fm (fs (fm (fs A C) (fa B D)) (fm (fa A C) (fs B D))) (fs (fm (fs A C) (fa B D)) (fm (fa A C) (fs B D)))))
      have Bd := Arr.st4o (b' := w2.heap.size + 1 + 1) Ad (by have := Ad.lt; have := Ac.lt; omega) (fm U (fm (fs (fm (fs A C) (fa B D)) (fm (fa A C) (fs B D))) (fs (fm (fs A C) (fa B D)) (fm (fa A C) (fs B D)))))
      have hB' := Bel.st4 hB (b := w2.heap.size + 1 + 1) (by have := hB.size; omega) (fm U (fm (fs (fm (fs A C) (fa B D)) (fm (fa A C) (fs B D))) (fs (fm (fs A C) (fa B D)) (fm (fa A C) (fs B D)))))
      clear An Ax Aa Ac Ab Ad hB
      have An := Bn
      have Ax := Bx
      have Aa := Ba
      have Ac := Bc
      have Ab := Bb
      have Ad := Bd
      have hB := hB'
      clear Bn Bx Ba Bc Bb Bd hB'
      have Bn := Arr.st4o (b' := w2.heap.size + 1 + 1 + 1 + 1) An (by have := An.lt; have := Ad.lt; omega) (fm (fs (fm (fa B D) (fa B D)) (fm (fs B D) (fs B D))) (fa (fm (fa B D) (fa B D)) (fm 121665 (fs (fm (fa B D) (fa B D)) (fm (fs B D) (fs B D))))))
      have Bx := Arr.st4o (b' := w2.heap.size + 1 + 1 + 1 + 1) Ax (by have := Ax.lt; have := Ad.lt; omega) (fm (fs (fm (fa B D) (fa B D)) (fm (fs B D) (fs B D))) (fa (fm (fa B D) (fa B D)) (fm 121665 (fs (fm (fa B D) (fa B D)) (fm (fs B D) (fs B D))))))
      have Ba := Arr.st4o (b' := w2.heap.size + 1 + 1 + 1 + 1) Aa (by have := Aa.lt; have := Ad.lt; omega) (fm (fs (fm (fa B D) (fa B D)) (fm (fs B D) (fs B D))) (fa (fm (fa B D) (fa B D)) (fm 121665 (fs (fm (fa B D) (fa B D)) (fm (fs B D) (fs B D))))))
      have Bc := Arr.st4o (b' := w2.heap.size + 1 + 1 + 1 + 1) Ac (by have := Ac.lt; have := Ad.lt; omega) (fm (fs (fm (fa B D) (fa B D)) (fm (fs B D) (fs B D))) (fa (fm (fa B D) (fa B D)) (fm 121665 (fs (fm (fa B D) (fa B D)) (fm (fs B D) (fs B D))))))
      have Bb := Arr.st4o (b' := w2.heap.size + 1 + 1 + 1 + 1) Ab (by have := Ab.lt; have := Ad.lt; omega) (fm (fs (fm (fa B D) (fa B D)) (fm (fs B D) (fs B D))) (fa (fm (fa B D) (fa B D)) (fm 121665 (fs (fm (fa B D) (fa B D)) (fm (fs B D) (fs B D))))))
      have Bd := Arr.st4 Ad (fm (fs (fm (fa B D) (fa B D)) (fm (fs B D) (fs B D))) (fa (fm (fa B D) (fa B D)) (fm 121665 (fs (fm (fa B D) (fa B D)) (fm (fs B D) (fs B D))))))
      have hB' := Bel.st4 hB (b := w2.heap.size + 1 + 1 + 1 + 1) (by have := hB.size; omega) (fm (fs (fm (fa B D) (fa B D)) (fm (fs B D) (fs B D))) (fa (fm (fa B D) (fa B D)) (fm 121665 (fs (fm (fa B D) (fa B D)) (fm (fs B D) (fs B D))))))
      clear An Ax Aa Ac Ab Ad hB
      have An := Bn
      have Ax := Bx
      have Aa := Ba
      have Ac := Bc
      have Ab := Bb
      have Ad := Bd
      have hB := hB'
      clear Bn Bx Ba Bc Bb Bd hB'
      go_wp2_with fail
      go_roundw
      case rel => exact ⟨j, _, _, _, _, by omega, by go_num, ⟨hB, ⟨h01, h12⟩, An, Ax, Aa, Ac, Ab, Ad⟩, HN⟩
      case measure => simp [intOf]
end Go.Proofs.YtpigofooblmdhaaGreat
/- Plain number theory: Fermat's little theorem, and how to show that a great number is prime. -/
set_option linter.all false
namespace Go.Proofs.YtpigofooblmdhaaGreat.NT
/-- A prime. -/
def Pri (p : Nat) : Prop := 2 ≤ p ∧ ∀ d, d ∣ p → d = 1 ∨ d = p
theorem Pri.cop {p a : Nat} (h : Pri p) (hn : ¬ p ∣ a) : Nat.Coprime p a := by
  rcases h.2 _ (Nat.gcd_dvd_left p a) with e | e
  · exact e
  · exact absurd (e ▸ Nat.gcd_dvd_right p a) hn
theorem Pri.dvd_mul {p a b : Nat} (h : Pri p) (hd : p ∣ a * b) : p ∣ a ∨ p ∣ b := by
  by_cases c : p ∣ a
  · exact .inl c
  · exact .inr ((h.cop c).dvd_of_dvd_mul_left hd)
def ch : Nat → Nat → Nat
  | _, 0 => 1
  | 0, _ + 1 => 0
  | n + 1, k + 1 => ch n k + ch n (k + 1)
theorem ch_big (n : Nat) : ∀ k, n < k → ch n k = 0 := by
  induction n with
  | zero => intro k hk; cases k with
    | zero => omega
    | succ k => rfl
  | succ n ih => intro k hk; cases k with
    | zero => omega
    | succ k => show ch n k + ch n (k + 1) = 0; rw [ih k (by omega), ih (k + 1) (by omega)]
theorem ch_self (n : Nat) : ch n n = 1 := by
  induction n with
  | zero => rfl
  | succ n ih => show ch n n + ch n (n + 1) = 1; rw [ih, ch_big n (n + 1) (by omega)]
theorem ch_zero (n : Nat) : ch n 0 = 1 := by cases n <;> rfl
theorem ch_abs (n : Nat) : ∀ k, (n + 1) * ch n k = ch (n + 1) (k + 1) * (k + 1) := by
  induction n with
  | zero => intro k; cases k with
    | zero => rfl
    | succ k => show 1 * 0 = (0 + ch 0 (k + 1 + 1)) * _; rw [ch_big 0 (k + 1 + 1) (by omega)]; simp
  | succ n ih => intro k; cases k with
    | zero =>
      have h1 := ih 0
      have e1 : ch (n + 1 + 1) (0 + 1) = ch (n + 1) 0 + ch (n + 1) (0 + 1) := rfl
      rw [e1, ch_zero]
      rw [ch_zero] at h1
      omega
    | succ k =>
      have h1 := ih k
      have h2 := ih (k + 1)
      have e1 : ch (n + 1 + 1) (k + 1 + 1) = ch (n + 1) (k + 1) + ch (n + 1) (k + 1 + 1) := rfl
      have e2 : ch (n + 1) (k + 1) = ch n k + ch n (k + 1) := rfl
      rw [e2] at h1 e1
      rw [e1, e2]
      clear e1 e2 ih
      generalize ch (n + 1) (k + 1 + 1) = x at *
      generalize ch n k = y at *
      generalize ch n (k + 1) = z at *
      grind
def S (n a : Nat) : Nat → Nat
  | 0 => 0
  | m + 1 => S n a m + ch n m * a ^ m
theorem S_step (n a m : Nat) : S (n + 1) a (m + 1) = S n a (m + 1) + a * S n a m := by
  induction m with
  | zero => simp [S, ch_zero]
  | succ m ih =>
    show S (n + 1) a (m + 1) + ch (n + 1) (m + 1) * a ^ (m + 1) = _
    have e : ch (n + 1) (m + 1) = ch n m + ch n (m + 1) := rfl
    have e2 : S n a (m + 1 + 1) = S n a (m + 1) + ch n (m + 1) * a ^ (m + 1) := rfl
    have e3 : S n a (m + 1) = S n a m + ch n m * a ^ m := rfl
    rw [ih, e, e2]
    have e4 : a * S n a (m + 1) = a * S n a m + ch n m * a ^ (m + 1) := by rw [e3, Nat.pow_succ]; grind
    rw [e4]; grind
theorem binom (a n : Nat) : S n a (n + 1) = (a + 1) ^ n := by
  induction n with
  | zero => simp [S, ch]
  | succ n ih =>
    rw [S_step]
    show S n a (n + 1) + ch n (n + 1) * _ + _ = _
    rw [ch_big n (n + 1) (by omega), ih, Nat.pow_succ]; grind
theorem Pri.ch {p : Nat} (h : Pri p) (k : Nat) (h0 : 0 < k) (h1 : k < p) : p ∣ ch p k := by
  obtain ⟨j, rfl⟩ : ∃ j, k = j + 1 := ⟨k - 1, by omega⟩
  obtain ⟨n, rfl⟩ : ∃ n, p = n + 1 := ⟨p - 1, by omega⟩
  have e := ch_abs n j
  have d : n + 1 ∣ NT.ch (n + 1) (j + 1) * (j + 1) := e ▸ Nat.dvd_mul_right _ _
  rcases h.dvd_mul d with c | c
  · exact c
  · exact absurd (Nat.le_of_dvd (by omega) c) (by omega)
theorem S_mod {p : Nat} (h : Pri p) (a : Nat) : ∀ m, m + 1 ≤ p → S p a (m + 1) % p = 1 := by
  intro m
  induction m with
  | zero => intro _; simp [S, ch_zero]; exact Nat.mod_eq_of_lt h.1
  | succ m ih =>
    intro hm
    show (S p a (m + 1) + NT.ch p (m + 1) * a ^ (m + 1)) % p = 1
    rw [Nat.add_mod, Nat.mul_mod, Nat.mod_eq_zero_of_dvd (h.ch (m + 1) (by omega) (by omega)), ih (by omega)]
    simp
    exact Nat.mod_eq_of_lt h.1
theorem fermat' {p : Nat} (h : Pri p) (a : Nat) : a ^ p % p = a % p := by
  induction a with
  | zero => rw [Nat.zero_pow (by have := h.1; omega)]
  | succ a ih =>
    rw [← binom]
    show (S p a p + NT.ch p p * a ^ p) % p = _
    obtain ⟨m, hm⟩ : ∃ m, p = m + 1 := ⟨p - 1, by have := h.1; omega⟩
    have s := S_mod h a m (by omega)
    rw [← hm] at s
    rw [ch_self, Nat.one_mul, Nat.add_mod, s, ih, Nat.add_comm 1, Nat.mod_add_mod]
theorem sub_dvd {p x y : Nat} (h : x % p = y % p) : p ∣ x - y := by
  have e1 := Nat.div_add_mod x p
  have e2 := Nat.div_add_mod y p
  refine ⟨x / p - y / p, ?_⟩
  rw [Nat.mul_sub]; omega
theorem fermat {p : Nat} (h : Pri p) (a : Nat) (hn : ¬ p ∣ a) : a ^ (p - 1) % p = 1 := by
  have f := fermat' h a
  obtain ⟨m, hm⟩ : ∃ m, p = m + 1 := ⟨p - 1, by have := h.1; omega⟩
  have e : a ^ p = a * a ^ (p - 1) := by rw [show p - 1 = m by omega]; conv => lhs; rw [hm, Nat.pow_succ, Nat.mul_comm]
  have a0 : 0 < a := by
    rcases Nat.eq_zero_or_pos a with c | c
    · subst c; exact absurd (Nat.dvd_zero p) hn
    · exact c
  have p1 : 1 ≤ a ^ (p - 1) := Nat.pow_pos a0
  rw [e] at f
  have d : p ∣ a * (a ^ (p - 1) - 1) := by
    rw [Nat.mul_sub, Nat.mul_one]
    exact sub_dvd f
  rcases h.dvd_mul d with c | c
  · exact absurd c hn
  · obtain ⟨t, ht⟩ := c
    have e1 : a ^ (p - 1) = 1 + p * t := by omega
    rw [e1, Nat.add_mul_mod_self_left]
    exact Nat.mod_eq_of_lt h.1
theorem pow_one_mod {x r : Nat} (h : x % r = 1 % r) (k : Nat) : x ^ k % r = 1 % r := by
  rw [Nat.pow_mod, h, ← Nat.pow_mod, Nat.one_pow]
theorem pow_gcd {x r : Nat} (a b : Nat) : x ^ a % r = 1 % r → x ^ b % r = 1 % r → x ^ (Nat.gcd a b) % r = 1 % r := by
  induction a, b using Nat.gcd.induction with
  | H0 n => intro _ h; rw [Nat.gcd_zero_left]; exact h
  | H1 m n hm ih =>
    intro h1 h2
    rw [Nat.gcd_rec]
    refine ih ?_ h1
    have e : x ^ n = x ^ (n % m) * (x ^ m) ^ (n / m) := by rw [← Nat.pow_mul, ← Nat.pow_add, Nat.mod_add_div]
    rw [e, Nat.mul_mod, pow_one_mod h1 (n / m), ← Nat.mul_mod, Nat.mul_one] at h2
    exact h2
theorem has_pri (n : Nat) : 2 ≤ n → ∃ p, Pri p ∧ p ∣ n := by
  induction n using Nat.strongRecOn with
  | ind n ih =>
    intro hn
    by_cases c : Pri n
    · exact ⟨n, c, Nat.dvd_refl n⟩
    · have : ∃ d, d ∣ n ∧ d ≠ 1 ∧ d ≠ n := Classical.byContradiction fun h => c ⟨hn, fun d hd => Classical.byContradiction fun h2 => h ⟨d, hd, by omega, by omega⟩⟩
      obtain ⟨d, hd, d1, dn⟩ := this
      have := Nat.le_of_dvd (by omega) hd
      have d0 : d ≠ 0 := by rintro rfl; obtain ⟨t, ht⟩ := hd; omega
      obtain ⟨p, hp, hpd⟩ := ih d (by omega) (by omega)
      exact ⟨p, hp, Nat.dvd_trans hpd hd⟩
theorem small_pri (n : Nat) (hn : 2 ≤ n) (c : ¬ Pri n) : ∃ r, Pri r ∧ r ∣ n ∧ r * r ≤ n := by
  have : ∃ d, d ∣ n ∧ d ≠ 1 ∧ d ≠ n := Classical.byContradiction fun h => c ⟨hn, fun d hd => Classical.byContradiction fun h2 => h ⟨d, hd, by omega, by omega⟩⟩
  obtain ⟨d, ⟨e, he⟩, d1, dn⟩ := this
  have d0 : d ≠ 0 := by rintro rfl; omega
  have e0 : e ≠ 0 := by rintro rfl; omega
  have e1 : e ≠ 1 := by rintro rfl; omega
  rcases Nat.le_total d e with h | h
  · obtain ⟨r, hr, hrd⟩ := has_pri d (by omega)
    have := Nat.le_of_dvd (by omega) hrd
    exact ⟨r, hr, he ▸ Nat.dvd_trans hrd (Nat.dvd_mul_right d e), he ▸ Nat.mul_le_mul this (by omega)⟩
  · obtain ⟨r, hr, hrd⟩ := has_pri e (by omega)
    have := Nat.le_of_dvd (by omega) hrd
    exact ⟨r, hr, he ▸ Nat.dvd_trans hrd (Nat.dvd_mul_left e d), he ▸ Nat.mul_le_mul (by omega) this⟩
theorem pock {n g q r : Nat} (hn : 2 ≤ n) (hq : Pri q) (hqn : q ∣ n - 1) (h1 : g ^ (n - 1) % n = 1) (h2 : Nat.gcd (g ^ ((n - 1) / q) % n + (n - 1)) n = 1) (hr : Pri r) (hrn : r ∣ n) : q ∣ r - 1 := by
  refine Classical.byContradiction fun hc => ?_
  have r2 := hr.1
  have er : (1 : Nat) % r = 1 := Nat.mod_eq_of_lt r2
  have g1 : g ^ (n - 1) % r = 1 % r := by rw [← Nat.mod_mod_of_dvd _ hrn, h1]
  have rg : ¬ r ∣ g := fun h => by
    have : r ∣ g ^ (n - 1) := Nat.dvd_trans h ⟨g ^ (n - 1 - 1), by rw [← Nat.pow_succ', show (n - 1 - 1).succ = n - 1 by omega]⟩
    have := Nat.mod_eq_zero_of_dvd this
    omega
  have g2 : g ^ (r - 1) % r = 1 % r := by rw [fermat hr g rg, er]
  have g3 := pow_gcd _ _ g1 g2
  obtain ⟨c, hcq⟩ := hqn
  have ec : (n - 1) / q = c := by rw [hcq, Nat.mul_div_cancel_left _ (by have := hq.1; omega)]
  have cop : Nat.Coprime q (Nat.gcd (n - 1) (r - 1)) := hq.cop fun h => hc (Nat.dvd_trans h (Nat.gcd_dvd_right _ _))
  have dc : Nat.gcd (n - 1) (r - 1) ∣ c := cop.symm.dvd_of_dvd_mul_left (hcq ▸ Nat.gcd_dvd_left (n - 1) (r - 1))
  obtain ⟨k, hk⟩ := dc
  have g4 : g ^ c % r = 1 % r := by rw [hk, Nat.pow_mul]; exact pow_one_mod g3 k
  rw [ec] at h2
  have g5 : g ^ c % n % r = 1 % r := by rw [Nat.mod_mod_of_dvd _ hrn, g4]
  have d1 : r ∣ g ^ c % n - 1 := sub_dvd g5
  have ge : 1 ≤ g ^ c % n := by
    rcases Nat.eq_zero_or_pos (g ^ c % n) with h | h
    · rw [h, Nat.zero_mod] at g5; omega
    · exact h
  have d2 : r ∣ g ^ c % n + (n - 1) := by
    have := Nat.dvd_add d1 hrn
    rwa [show g ^ c % n - 1 + n = g ^ c % n + (n - 1) by omega] at this
  have d3 := Nat.dvd_gcd d2 hrn
  rw [h2] at d3
  have := Nat.le_of_dvd (by omega) d3
  omega
theorem pock_end {n F : Nat} (hn : 2 ≤ n) (hF : n < (F + 1) * (F + 1)) (h : ∀ r, Pri r → r ∣ n → F ∣ r - 1) : Pri n := by
  refine Classical.byContradiction fun c => ?_
  obtain ⟨r, hr, hrn, hrr⟩ := small_pri n hn c
  have r2 := hr.1
  have := Nat.le_of_dvd (by omega) (h r hr hrn)
  have := Nat.mul_le_mul (show F + 1 ≤ r by omega) (show F + 1 ≤ r by omega)
  omega
def pmod (n : Nat) : Nat → Nat → Nat → Nat
  | 0, _, _ => 1 % n
  | f + 1, g, e => if e % 2 = 1 then g * pmod n f (g * g % n) (e / 2) % n else pmod n f (g * g % n) (e / 2)
theorem pmod_eq (n : Nat) : ∀ f g e, e < 2 ^ f → pmod n f g e = g ^ e % n := by
  intro f
  induction f with
  | zero => intro g e he; have : e = 0 := by omega
            subst this; rfl
  | succ f ih =>
    intro g e he
    have he2 : e / 2 < 2 ^ f := by rw [Nat.pow_succ] at he; omega
    have sq : (g * g % n) ^ (e / 2) % n = g ^ (2 * (e / 2)) % n := by rw [← Nat.pow_mod, Nat.pow_mul, Nat.pow_two]
    show (if e % 2 = 1 then g * pmod n f (g * g % n) (e / 2) % n else pmod n f (g * g % n) (e / 2)) = _
    rw [ih _ _ he2, sq]
    split
    · rw [Nat.mul_mod, Nat.mod_mod, ← Nat.mul_mod, ← Nat.pow_succ', show (2 * (e / 2)).succ = e by omega]
    · rw [show 2 * (e / 2) = e by omega]
def tst (n g q : Nat) : Bool := decide (2 ≤ n) && ((n - 1) % q == 0 && (pmod n 256 g (n - 1) == 1 && Nat.gcd (pmod n 256 g ((n - 1) / q) + (n - 1)) n == 1))
theorem pock' {n q r : Nat} (g : Nat) (hb : n < 2 ^ 256) (ht : tst n g q = true) (hq : Pri q) (hr : Pri r) (hrn : r ∣ n) : q ∣ r - 1 := by
  simp only [tst, Bool.and_eq_true, decide_eq_true_eq, beq_iff_eq] at ht
  obtain ⟨t1, t2, t3, t4⟩ := ht
  have q2 := hq.1
  rw [pmod_eq _ _ _ _ (by omega)] at t3
  rw [pmod_eq _ _ _ _ (Nat.lt_of_le_of_lt (Nat.div_le_self _ _) (by omega))] at t4
  exact pock t1 hq (Nat.dvd_of_mod_eq_zero t2) t3 t4 hr hrn
theorem pri1 {n q : Nat} (g : Nat) (hb : n < 2 ^ 256) (ht : tst n g q = true) (hF : n < (q + 1) * (q + 1)) (hq : Pri q) : Pri n :=
  pock_end (F := q) (by simp only [tst, Bool.and_eq_true, decide_eq_true_eq] at ht; exact ht.1) hF fun r hr hrn => pock' g hb ht hq hr hrn
theorem pri2 {n p q : Nat} (g : Nat) (hb : n < 2 ^ 256) (ht : tst n g p = true) (ht' : tst n g q = true) (hF : n < (p * q + 1) * (p * q + 1)) (hne : Nat.gcd p q = 1) (hp : Pri p) (hq : Pri q) : Pri n :=
  pock_end (F := p * q) (by simp only [tst, Bool.and_eq_true, decide_eq_true_eq] at ht; exact ht.1) hF fun r hr hrn =>
    Nat.Coprime.mul_dvd_of_dvd_of_dvd hne (pock' g hb ht hp hr hrn) (pock' g hb ht' hq hr hrn)
def small (n : Nat) : Bool := decide (2 ≤ n) && (List.range n).all fun d => d == 0 || d == 1 || n % d != 0
theorem pri_small {n : Nat} (h : small n = true) : Pri n := by
  simp only [small, Bool.and_eq_true, decide_eq_true_eq, List.all_eq_true, List.mem_range] at h
  refine ⟨h.1, fun d hd => ?_⟩
  have := Nat.le_of_dvd (by omega) hd
  rcases Nat.lt_or_ge d n with c | c
  · have t := h.2 d c
    have z := Nat.mod_eq_zero_of_dvd hd
    have d0 : d ≠ 0 := by rintro rfl; obtain ⟨t, ht⟩ := hd; omega
    simp [z, d0] at t
    exact .inl t
  · exact .inr (by omega)
theorem p0 : Pri 991 := pri2 2 (by decide +kernel) (by decide +kernel) (by decide +kernel) (by decide +kernel) (by decide +kernel) (pri_small (n := 11) (by decide +kernel)) (pri_small (n := 5) (by decide +kernel))
theorem p1 : Pri 8574133 := pri2 2 (by decide +kernel) (by decide +kernel) (by decide +kernel) (by decide +kernel) (by decide +kernel) p0 (pri_small (n := 103) (by decide +kernel))
theorem p2 : Pri 1919519569386763 := pri2 2 (by decide +kernel) (by decide +kernel) (by decide +kernel) (by decide +kernel) (by decide +kernel) p1 (pri_small (n := 127) (by decide +kernel))
theorem p3 : Pri 419 := pri2 2 (by decide +kernel) (by decide +kernel) (by decide +kernel) (by decide +kernel) (by decide +kernel) (pri_small (n := 19) (by decide +kernel)) (pri_small (n := 11) (by decide +kernel))
theorem p4 : Pri 569003 := pri2 2 (by decide +kernel) (by decide +kernel) (by decide +kernel) (by decide +kernel) (by decide +kernel) p3 (pri_small (n := 97) (by decide +kernel))
theorem p5 : Pri 2773320623 := pri1 2 (by decide +kernel) (by decide +kernel) (by decide +kernel) p4
theorem p6 : Pri 72106336199 := pri1 2 (by decide +kernel) (by decide +kernel) (by decide +kernel) p5
theorem p7 : Pri 75445702479781427272750846543864801 := pri2 2 (by decide +kernel) (by decide +kernel) (by decide +kernel) (by decide +kernel) (by decide +kernel) p2 p6
theorem p8 : Pri 1723 := pri1 2 (by decide +kernel) (by decide +kernel) (by decide +kernel) (pri_small (n := 41) (by decide +kernel))
theorem p9 : Pri 430751 := pri1 2 (by decide +kernel) (by decide +kernel) (by decide +kernel) p8
theorem p10 : Pri 4153 := pri1 2 (by decide +kernel) (by decide +kernel) (by decide +kernel) (pri_small (n := 173) (by decide +kernel))
theorem p11 : Pri 31757755568855353 := pri2 2 (by decide +kernel) (by decide +kernel) (by decide +kernel) (by decide +kernel) (by decide +kernel) p9 p10
theorem p12 : Pri 74058212732561358302231226437062788676166966415465897661863160754340907 := pri2 2 (by decide +kernel) (by decide +kernel) (by decide +kernel) (by decide +kernel) (by decide +kernel) p7 p11
theorem p13 : Pri 57896044618658097711785492504343953926634992332820282019728792003956564819949 := pri1 2 (by decide +kernel) (by decide +kernel) (by decide +kernel) p12
theorem p14 : Pri 704251 := pri2 2 (by decide +kernel) (by decide +kernel) (by decide +kernel) (by decide +kernel) (by decide +kernel) (pri_small (n := 313) (by decide +kernel)) (pri_small (n := 5) (by decide +kernel))
theorem p15 : Pri 1087 := pri1 2 (by decide +kernel) (by decide +kernel) (by decide +kernel) (pri_small (n := 181) (by decide +kernel))
theorem p16 : Pri 4349 := pri1 2 (by decide +kernel) (by decide +kernel) (by decide +kernel) p15
theorem p17 : Pri 78283 := pri1 2 (by decide +kernel) (by decide +kernel) (by decide +kernel) p16
theorem p18 : Pri 46076956964474543 := pri2 2 (by decide +kernel) (by decide +kernel) (by decide +kernel) (by decide +kernel) (by decide +kernel) p14 p17
theorem p19 : Pri 919 := pri2 5 (by decide +kernel) (by decide +kernel) (by decide +kernel) (by decide +kernel) (by decide +kernel) (pri_small (n := 17) (by decide +kernel)) (pri_small (n := 3) (by decide +kernel))
theorem p20 : Pri 3677 := pri1 2 (by decide +kernel) (by decide +kernel) (by decide +kernel) p19
theorem p21 : Pri 66417393611 := pri2 2 (by decide +kernel) (by decide +kernel) (by decide +kernel) (by decide +kernel) (by decide +kernel) p20 (pri_small (n := 197) (by decide +kernel))
theorem p22 : Pri 11290956913871 := pri1 2 (by decide +kernel) (by decide +kernel) (by decide +kernel) p21
theorem p23 : Pri 774023187263532362759620327192479577272145303 := pri2 2 (by decide +kernel) (by decide +kernel) (by decide +kernel) (by decide +kernel) (by decide +kernel) p18 p22
theorem p24 : Pri 835945042244614951780389953367877943453916927241 := pri1 2 (by decide +kernel) (by decide +kernel) (by decide +kernel) p23
theorem p25 : Pri 115792089210356248762697446949407573530086143415290314195533631308867097853951 := pri1 2 (by decide +kernel) (by decide +kernel) (by decide +kernel) p24
theorem p26 : Pri 155317 := Classical.byContradiction fun c => by
  obtain ⟨r, hr, hrn, hrr⟩ := small_pri 155317 (by decide) c
  have all : ((List.range 400).all fun d => d == 0 || d == 1 || 155317 % d != 0) = true := by decide +kernel
  rw [List.all_eq_true] at all
  have r4 : r < 400 := by
    rcases Nat.lt_or_ge r 400 with h | h
    · exact h
    · have := Nat.mul_le_mul h h; omega
  have t := all r (List.mem_range.2 r4)
  have r2 := hr.1
  have z := Nat.mod_eq_zero_of_dvd hrn
  simp [z] at t
  omega
theorem p27 : Pri 191039911 := pri1 2 (by decide +kernel) (by decide +kernel) (by decide +kernel) p26
theorem p28 : Pri 1511 := pri1 2 (by decide +kernel) (by decide +kernel) (by decide +kernel) (pri_small (n := 151) (by decide +kernel))
theorem p29 : Pri 3023 := pri1 2 (by decide +kernel) (by decide +kernel) (by decide +kernel) p28
theorem p30 : Pri 208150935158385979 := pri2 2 (by decide +kernel) (by decide +kernel) (by decide +kernel) (by decide +kernel) (by decide +kernel) p27 p29
theorem p31 : Pri 2624747550333869278416773953 := pri1 2 (by decide +kernel) (by decide +kernel) (by decide +kernel) p30
theorem p32 : Pri 104471 := pri1 2 (by decide +kernel) (by decide +kernel) (by decide +kernel) (pri_small (n := 337) (by decide +kernel))
theorem p33 : Pri 3969899 := pri1 2 (by decide +kernel) (by decide +kernel) (by decide +kernel) p32
theorem p34 : Pri 1002328039319 := pri1 2 (by decide +kernel) (by decide +kernel) (by decide +kernel) p33
theorem p35 : Pri 115792089210356248762697446949407573529996955224135760342422259061068512044369 := pri2 2 (by decide +kernel) (by decide +kernel) (by decide +kernel) (by decide +kernel) (by decide +kernel) p31 p34
end Go.Proofs.YtpigofooblmdhaaGreat.NT
/- The example of layer 3: RFC 7748's first, and a coordinate of 0. -/
set_option linter.all false
set_option maxRecDepth 100000
namespace Go.Proofs.YtpigofooblmdhaaGreat
open Go.RowKit Go.Sort
theorem la0 : [true, false, false, false, true, false, false, true, false, false, true, true, false, true, false].foldl (lstep 34426434033919594451155107781188821651316167215306631574996226621102155684838) ((1, 0, 34426434033919594451155107781188821651316167215306631574996226621102155684838, 1) : Int × Int × Int × Int) = (38823908460797657666483361503277475781630144149615523375485563982676228946860, 45105876714468267868065793491380380295499983917718258397975650028406915136873, 50454248067513615812927998578169643763859376317470679755687255942542258482887, 35693578470779519018683144706185675651036495956288485204069773902678061483881) := by decide +kernel
theorem la1 : [false, true, false, false, false, true, false, false, true, false, true, true, true, false, true].foldl (lstep 34426434033919594451155107781188821651316167215306631574996226621102155684838) ((38823908460797657666483361503277475781630144149615523375485563982676228946860, 45105876714468267868065793491380380295499983917718258397975650028406915136873, 50454248067513615812927998578169643763859376317470679755687255942542258482887, 35693578470779519018683144706185675651036495956288485204069773902678061483881) : Int × Int × Int × Int) = (56500261329474431162472132001581006515287588223950207337712624846826608735727, 5137363528154173200179635312142687107042813607889117799074961719694693353635, 49673951087991086217698382372551070261252310312110646938999545907497223726013, 30211511095384617556086654642682305214431767967711311125588779947623851968422) := by decide +kernel
theorem la2 : [false, false, true, false, false, false, true, false, false, false, false, true, false, false, false].foldl (lstep 34426434033919594451155107781188821651316167215306631574996226621102155684838) ((56500261329474431162472132001581006515287588223950207337712624846826608735727, 5137363528154173200179635312142687107042813607889117799074961719694693353635, 49673951087991086217698382372551070261252310312110646938999545907497223726013, 30211511095384617556086654642682305214431767967711311125588779947623851968422) : Int × Int × Int × Int) = (50709678336914074677660208797294172065764812195042294892877401421023189916197, 54559101726904987316590975301357161284329759283688031830852173568021526199706, 41596700706755170904764295234112023016208106244331776369890287589473190112107, 12259032010887752598290542774704359151859393077679798435678905047296791763548) := by decide +kernel
theorem la3 : [true, false, false, true, true, false, true, false, true, false, false, true, false, true, false].foldl (lstep 34426434033919594451155107781188821651316167215306631574996226621102155684838) ((50709678336914074677660208797294172065764812195042294892877401421023189916197, 54559101726904987316590975301357161284329759283688031830852173568021526199706, 41596700706755170904764295234112023016208106244331776369890287589473190112107, 12259032010887752598290542774704359151859393077679798435678905047296791763548) : Int × Int × Int × Int) = (28046059175588077627229632598195043886844228660991954265633586468227393458520, 33661525873766540099520392436941157321607292901080537217035312754346469923847, 28442957418389697279225384445773774157674958241029453634385683427630595510925, 47254944639617072223550213347551525524918803160408038363295252563399581886013) := by decide +kernel
theorem la4 : [false, false, false, false, false, false, true, true, false, false, false, false, true, false, true].foldl (lstep 34426434033919594451155107781188821651316167215306631574996226621102155684838) ((28046059175588077627229632598195043886844228660991954265633586468227393458520, 33661525873766540099520392436941157321607292901080537217035312754346469923847, 28442957418389697279225384445773774157674958241029453634385683427630595510925, 47254944639617072223550213347551525524918803160408038363295252563399581886013) : Int × Int × Int × Int) = (16964279897361214622933394939549673323509179397049400825273249536167038604253, 41592416696912529540807032302236308618661493121774377618232383211944979222697, 39631852205841246485973322362898381055326747939987754431335888171371521429579, 11479475009952235616794985046694763721558430993125019059449499353704914640754) := by decide +kernel
theorem la5 : [true, false, true, false, true, true, true, true, true, true, false, false, true, true, false].foldl (lstep 34426434033919594451155107781188821651316167215306631574996226621102155684838) ((16964279897361214622933394939549673323509179397049400825273249536167038604253, 41592416696912529540807032302236308618661493121774377618232383211944979222697, 39631852205841246485973322362898381055326747939987754431335888171371521429579, 11479475009952235616794985046694763721558430993125019059449499353704914640754) : Int × Int × Int × Int) = (4078048717078925677168177632394803780327715511204511803170571904670630976675, 37474131975719200361480490829330050128364815369548573472011142157299050703260, 1510845308656487959268880177433811708064016088731550186856138497234813717378, 13812347891097646848627378392004485626326255747065604232209097077634135447102) := by decide +kernel
theorem la6 : [false, false, false, false, true, false, false, false, false, true, false, true, false, false, true].foldl (lstep 34426434033919594451155107781188821651316167215306631574996226621102155684838) ((4078048717078925677168177632394803780327715511204511803170571904670630976675, 37474131975719200361480490829330050128364815369548573472011142157299050703260, 1510845308656487959268880177433811708064016088731550186856138497234813717378, 13812347891097646848627378392004485626326255747065604232209097077634135447102) : Int × Int × Int × Int) = (56054573634639957970442305357816129842779849531377884405940746180153851644547, 28117561350859183517596317674186482551730401698031541567889096382788771910109, 35683441721446463054850148051518612583940646328609413735615504925308989943948, 55063497256630611079054522338102887030132540728486389289411254222016189988898) := by decide +kernel
theorem la7 : [false, false, true, true, false, false, false, false, false, true, false, true, false, false, false].foldl (lstep 34426434033919594451155107781188821651316167215306631574996226621102155684838) ((56054573634639957970442305357816129842779849531377884405940746180153851644547, 28117561350859183517596317674186482551730401698031541567889096382788771910109, 35683441721446463054850148051518612583940646328609413735615504925308989943948, 55063497256630611079054522338102887030132540728486389289411254222016189988898) : Int × Int × Int × Int) = (38686447599340090171758780942022877806164508890445849188403595581981070834622, 15966122190991346815931481301672495727337697576802296444700246898874428174341, 10192264073126922192427344745513309878536867233850009818659033289442788000989, 30504075928699489627343276213817897388628458790676539282397346543638564041419) := by decide +kernel
theorem la8 : [true, true, false, false, false, true, false, true, true, false, true, true, true, false, true].foldl (lstep 34426434033919594451155107781188821651316167215306631574996226621102155684838) ((38686447599340090171758780942022877806164508890445849188403595581981070834622, 15966122190991346815931481301672495727337697576802296444700246898874428174341, 10192264073126922192427344745513309878536867233850009818659033289442788000989, 30504075928699489627343276213817897388628458790676539282397346543638564041419) : Int × Int × Int × Int) = (442976050587679741140283186821474094950908529783794433272710463706210094406, 27021284736884179627475649532269436963792322494231470646180417553631810154474, 32767147832854158832422751334682619503068083022139555870013097890195778391205, 14934983904070004255261220360669838263310817449087400669987125373888288499941) := by decide +kernel
theorem la9 : [false, true, false, true, true, true, true, false, false, true, false, false, false, true, true].foldl (lstep 34426434033919594451155107781188821651316167215306631574996226621102155684838) ((442976050587679741140283186821474094950908529783794433272710463706210094406, 27021284736884179627475649532269436963792322494231470646180417553631810154474, 32767147832854158832422751334682619503068083022139555870013097890195778391205, 14934983904070004255261220360669838263310817449087400669987125373888288499941) : Int × Int × Int × Int) = (57682317012886874140769721152078925758481529826751122713056139754814604104973, 13866938450180196817122247161890046573574724235807734287262242861156747606078, 47127243661051308477252001479157642566969262543358395739691683804390154726144, 26405241921080619885215487342181230759981352744330445102836795236180525164047) := by decide +kernel
theorem la10 : [false, true, false, false, false, false, false, true, false, false, true, false, false, true, false].foldl (lstep 34426434033919594451155107781188821651316167215306631574996226621102155684838) ((57682317012886874140769721152078925758481529826751122713056139754814604104973, 13866938450180196817122247161890046573574724235807734287262242861156747606078, 47127243661051308477252001479157642566969262543358395739691683804390154726144, 26405241921080619885215487342181230759981352744330445102836795236180525164047) : Int × Int × Int × Int) = (6963494692422664134674523859905821333229775294560035173644404315503034157160, 52657217032646215548482130251109739889517943712401961729529653014243000286662, 8761692084618560276211892830549642066902375701288617247303230215054175680061, 35870934485175978570118978686850321988039927383237663596741642453562288698228) := by decide +kernel
theorem la11 : [true, true, false, false, false, true, false, true, false, true, false, false, false, true, false].foldl (lstep 34426434033919594451155107781188821651316167215306631574996226621102155684838) ((6963494692422664134674523859905821333229775294560035173644404315503034157160, 52657217032646215548482130251109739889517943712401961729529653014243000286662, 8761692084618560276211892830549642066902375701288617247303230215054175680061, 35870934485175978570118978686850321988039927383237663596741642453562288698228) : Int × Int × Int × Int) = (4255762770975085920908469194644976073317439473345255552773855799751096341861, 55338385804089876239389705388700036245914777272663455598401335818926353724157, 17468173373753592029727198027618023969589138213072515121421317933336267977525, 31128733972514191004735429327004941263847662860729659846557335280043798234083) := by decide +kernel
theorem la12 : [true, true, false, false, false, true, true, true, false, true, true, true, false, false, true].foldl (lstep 34426434033919594451155107781188821651316167215306631574996226621102155684838) ((4255762770975085920908469194644976073317439473345255552773855799751096341861, 55338385804089876239389705388700036245914777272663455598401335818926353724157, 17468173373753592029727198027618023969589138213072515121421317933336267977525, 31128733972514191004735429327004941263847662860729659846557335280043798234083) : Int × Int × Int × Int) = (7927878358399291052239974808212397500807354247220424730761426274558668812684, 38581700288538777499651448864324450490548039475407814333692529163178625597097, 8408033955508890878799780518141823970028751509627055797467176340708833971994, 3569521666364088552879064176169460029573034713601259587739963118049000486495) := by decide +kernel
theorem la13 : [true, true, false, true, false, true, true, true, true, true, false, false, false, true, false].foldl (lstep 34426434033919594451155107781188821651316167215306631574996226621102155684838) ((7927878358399291052239974808212397500807354247220424730761426274558668812684, 38581700288538777499651448864324450490548039475407814333692529163178625597097, 8408033955508890878799780518141823970028751509627055797467176340708833971994, 3569521666364088552879064176169460029573034713601259587739963118049000486495) : Int × Int × Int × Int) = (23769742546589786601609457214425495171107127792259333796321810405732187195250, 35012147275779692652476907589756220596894766297315196046999338375808102286328, 56183044748560672038727298051054548739740807786031048489431146440110612470796, 54721847086537635867442612581838038506414619673176850774735501327859594876226) := by decide +kernel
theorem la14 : [true, false, false, true, false, true, true, true, true, false, false, false, false, false, true].foldl (lstep 34426434033919594451155107781188821651316167215306631574996226621102155684838) ((23769742546589786601609457214425495171107127792259333796321810405732187195250, 35012147275779692652476907589756220596894766297315196046999338375808102286328, 56183044748560672038727298051054548739740807786031048489431146440110612470796, 54721847086537635867442612581838038506414619673176850774735501327859594876226) : Int × Int × Int × Int) = (56800893991862990976396785276629781483845288789342365394637685835485702195246, 29181281794882208667053339213936126495396665305064615950902184338105288574972, 11390370068185876260356235969923879749552013528744709351840926247533605581890, 46426957643877517789213338424317867436671188206807204144977601191360635097621) := by decide +kernel
theorem la15 : [true, false, true, false, true, true, true, true, true, false, false, false, true, true, false].foldl (lstep 34426434033919594451155107781188821651316167215306631574996226621102155684838) ((56800893991862990976396785276629781483845288789342365394637685835485702195246, 29181281794882208667053339213936126495396665305064615950902184338105288574972, 11390370068185876260356235969923879749552013528744709351840926247533605581890, 46426957643877517789213338424317867436671188206807204144977601191360635097621) : Int × Int × Int × Int) = (30681502354801701046152196026270320320789865451500279784918714664360855973714, 40710321702877544881599284918604295164296309025011008711241559648540321294370, 12135507091235317837703602285694901101156655090697319827101527731423451756391, 27360458756016025810347072832510222941936570719133105141578230900317706774116) := by decide +kernel
theorem la16 : [true, false, false, false, true, true, false, true, false, true, false, false, false, false, false].foldl (lstep 34426434033919594451155107781188821651316167215306631574996226621102155684838) ((30681502354801701046152196026270320320789865451500279784918714664360855973714, 40710321702877544881599284918604295164296309025011008711241559648540321294370, 12135507091235317837703602285694901101156655090697319827101527731423451756391, 27360458756016025810347072832510222941936570719133105141578230900317706774116) : Int × Int × Int × Int) = (40720446656044610887007743526168351200949085573335588056034522313589005102685, 1913421194926468280838932077950181047858614286606652195677699455974229136423, 45198403963383475001499220223294015390359985422632949493664307348747558308726, 36379949606018683717551128537890270090677201059301795776972403754422640538679) := by decide +kernel
theorem la : lsts 34426434033919594451155107781188821651316167215306631574996226621102155684838 (upto 31029842492115040904895560451863089656472772604678260265531221036453811406496 255 255) = (40720446656044610887007743526168351200949085573335588056034522313589005102685, 1913421194926468280838932077950181047858614286606652195677699455974229136423, 45198403963383475001499220223294015390359985422632949493664307348747558308726, 36379949606018683717551128537890270090677201059301795776972403754422640538679) := by
  have e : upto 31029842492115040904895560451863089656472772604678260265531221036453811406496 255 255 = [true, false, false, false, true, false, false, true, false, false, true, true, false, true, false] ++ [false, true, false, false, false, true, false, false, true, false, true, true, true, false, true] ++ [false, false, true, false, false, false, true, false, false, false, false, true, false, false, false] ++ [true, false, false, true, true, false, true, false, true, false, false, true, false, true, false] ++ [false, false, false, false, false, false, true, true, false, false, false, false, true, false, true] ++ [true, false, true, false, true, true, true, true, true, true, false, false, true, true, false] ++ [false, false, false, false, true, false, false, false, false, true, false, true, false, false, true] ++ [false, false, true, true, false, false, false, false, false, true, false, true, false, false, false] ++ [true, true, false, false, false, true, false, true, true, false, true, true, true, false, true] ++ [false, true, false, true, true, true, true, false, false, true, false, false, false, true, true] ++ [false, true, false, false, false, false, false, true, false, false, true, false, false, true, false] ++ [true, true, false, false, false, true, false, true, false, true, false, false, false, true, false] ++ [true, true, false, false, false, true, true, true, false, true, true, true, false, false, true] ++ [true, true, false, true, false, true, true, true, true, true, false, false, false, true, false] ++ [true, false, false, true, false, true, true, true, true, false, false, false, false, false, true] ++ [true, false, true, false, true, true, true, true, true, false, false, false, true, true, false] ++ [true, false, false, false, true, true, false, true, false, true, false, false, false, false, false] := by decide +kernel
  rw [e]
  unfold lsts
  simp only [List.foldl_append]
  rw [la0, la1, la2, la3, la4, la5, la6, la7, la8, la9, la10, la11, la12, la13, la14, la15, la16]
theorem lz0 : [true, false, false, false, true, false, false, true, false, false, true, true, false, true, false].foldl (lstep 0) ((1, 0, 0, 1) : Int × Int × Int × Int) = (0, 0, 0, 0) := by decide +kernel
theorem lz1 : [false, true, false, false, false, true, false, false, true, false, true, true, true, false, true].foldl (lstep 0) ((0, 0, 0, 0) : Int × Int × Int × Int) = (0, 0, 0, 0) := by decide +kernel
theorem lz2 : [false, false, true, false, false, false, true, false, false, false, false, true, false, false, false].foldl (lstep 0) ((0, 0, 0, 0) : Int × Int × Int × Int) = (0, 0, 0, 0) := by decide +kernel
theorem lz3 : [true, false, false, true, true, false, true, false, true, false, false, true, false, true, false].foldl (lstep 0) ((0, 0, 0, 0) : Int × Int × Int × Int) = (0, 0, 0, 0) := by decide +kernel
theorem lz4 : [false, false, false, false, false, false, true, true, false, false, false, false, true, false, true].foldl (lstep 0) ((0, 0, 0, 0) : Int × Int × Int × Int) = (0, 0, 0, 0) := by decide +kernel
theorem lz5 : [true, false, true, false, true, true, true, true, true, true, false, false, true, true, false].foldl (lstep 0) ((0, 0, 0, 0) : Int × Int × Int × Int) = (0, 0, 0, 0) := by decide +kernel
theorem lz6 : [false, false, false, false, true, false, false, false, false, true, false, true, false, false, true].foldl (lstep 0) ((0, 0, 0, 0) : Int × Int × Int × Int) = (0, 0, 0, 0) := by decide +kernel
theorem lz7 : [false, false, true, true, false, false, false, false, false, true, false, true, false, false, false].foldl (lstep 0) ((0, 0, 0, 0) : Int × Int × Int × Int) = (0, 0, 0, 0) := by decide +kernel
theorem lz8 : [true, true, false, false, false, true, false, true, true, false, true, true, true, false, true].foldl (lstep 0) ((0, 0, 0, 0) : Int × Int × Int × Int) = (0, 0, 0, 0) := by decide +kernel
theorem lz9 : [false, true, false, true, true, true, true, false, false, true, false, false, false, true, true].foldl (lstep 0) ((0, 0, 0, 0) : Int × Int × Int × Int) = (0, 0, 0, 0) := by decide +kernel
theorem lz10 : [false, true, false, false, false, false, false, true, false, false, true, false, false, true, false].foldl (lstep 0) ((0, 0, 0, 0) : Int × Int × Int × Int) = (0, 0, 0, 0) := by decide +kernel
theorem lz11 : [true, true, false, false, false, true, false, true, false, true, false, false, false, true, false].foldl (lstep 0) ((0, 0, 0, 0) : Int × Int × Int × Int) = (0, 0, 0, 0) := by decide +kernel
theorem lz12 : [true, true, false, false, false, true, true, true, false, true, true, true, false, false, true].foldl (lstep 0) ((0, 0, 0, 0) : Int × Int × Int × Int) = (0, 0, 0, 0) := by decide +kernel
theorem lz13 : [true, true, false, true, false, true, true, true, true, true, false, false, false, true, false].foldl (lstep 0) ((0, 0, 0, 0) : Int × Int × Int × Int) = (0, 0, 0, 0) := by decide +kernel
theorem lz14 : [true, false, false, true, false, true, true, true, true, false, false, false, false, false, true].foldl (lstep 0) ((0, 0, 0, 0) : Int × Int × Int × Int) = (0, 0, 0, 0) := by decide +kernel
theorem lz15 : [true, false, true, false, true, true, true, true, true, false, false, false, true, true, false].foldl (lstep 0) ((0, 0, 0, 0) : Int × Int × Int × Int) = (0, 0, 0, 0) := by decide +kernel
theorem lz16 : [true, false, false, false, true, true, false, true, false, true, false, false, false, false, false].foldl (lstep 0) ((0, 0, 0, 0) : Int × Int × Int × Int) = (0, 0, 0, 0) := by decide +kernel
theorem lz : lsts 0 (upto 31029842492115040904895560451863089656472772604678260265531221036453811406496 255 255) = (0, 0, 0, 0) := by
  have e : upto 31029842492115040904895560451863089656472772604678260265531221036453811406496 255 255 = [true, false, false, false, true, false, false, true, false, false, true, true, false, true, false] ++ [false, true, false, false, false, true, false, false, true, false, true, true, true, false, true] ++ [false, false, true, false, false, false, true, false, false, false, false, true, false, false, false] ++ [true, false, false, true, true, false, true, false, true, false, false, true, false, true, false] ++ [false, false, false, false, false, false, true, true, false, false, false, false, true, false, true] ++ [true, false, true, false, true, true, true, true, true, true, false, false, true, true, false] ++ [false, false, false, false, true, false, false, false, false, true, false, true, false, false, true] ++ [false, false, true, true, false, false, false, false, false, true, false, true, false, false, false] ++ [true, true, false, false, false, true, false, true, true, false, true, true, true, false, true] ++ [false, true, false, true, true, true, true, false, false, true, false, false, false, true, true] ++ [false, true, false, false, false, false, false, true, false, false, true, false, false, true, false] ++ [true, true, false, false, false, true, false, true, false, true, false, false, false, true, false] ++ [true, true, false, false, false, true, true, true, false, true, true, true, false, false, true] ++ [true, true, false, true, false, true, true, true, true, true, false, false, false, true, false] ++ [true, false, false, true, false, true, true, true, true, false, false, false, false, false, true] ++ [true, false, true, false, true, true, true, true, true, false, false, false, true, true, false] ++ [true, false, false, false, true, true, false, true, false, true, false, false, false, false, false] := by decide +kernel
  rw [e]
  unfold lsts
  simp only [List.foldl_append]
  rw [lz0, lz1, lz2, lz3, lz4, lz5, lz6, lz7, lz8, lz9, lz10, lz11, lz12, lz13, lz14, lz15, lz16]
theorem pw_gen (c n m : Nat) : ((c : Int) ^ n % (m : Int)) = ((c ^ n % m : Nat) : Int) := by push_cast; rfl
theorem pw_of (c n m f : Nat) (h : n < 2 ^ f) : ((c : Int) ^ n % (m : Int)) = ((NT.pmod m f c n : Nat) : Int) := by rw [NT.pmod_eq m f c n h]; exact pw_gen c n m
theorem p2_nat : (pp - 2).toNat = 57896044618658097711785492504343953926634992332820282019728792003956564819947 := by decide
theorem pp_nat : pp = ((57896044618658097711785492504343953926634992332820282019728792003956564819949 : Nat) : Int) := by decide
theorem pw_nat (c : Nat) : ((c : Int) ^ (pp - 2).toNat % pp) = ((NT.pmod 57896044618658097711785492504343953926634992332820282019728792003956564819949 256 c 57896044618658097711785492504343953926634992332820282019728792003956564819947 : Nat) : Int) := by
  have h := pw_of c (pp - 2).toNat 57896044618658097711785492504343953926634992332820282019728792003956564819949 256 (by rw [p2_nat]; decide)
  rw [← pp_nat] at h
  rw [h]
  congr 2
theorem xr_a : xr 31029842492115040904895560451863089656472772604678260265531221036453811406496 34426434033919594451155107781188821651316167215306631574996226621102155684838 = 37325765543539916631701301279660700968428932651319597985674090122993663859395 := by
  unfold xr vl fm
  rw [la]
  show 40720446656044610887007743526168351200949085573335588056034522313589005102685 * (((1913421194926468280838932077950181047858614286606652195677699455974229136423 : Nat) : Int) ^ (pp - 2).toNat % pp) % pp = _
  rw [pw_nat]
  decide +kernel
theorem xr_z : xr 31029842492115040904895560451863089656472772604678260265531221036453811406496 0 = 0 := by
  unfold xr vl fm
  rw [lz]
  show 0 * (((0 : Nat) : Int) ^ (pp - 2).toNat % pp) % pp = _
  rw [pw_nat]
  decide +kernel
end Go.Proofs.YtpigofooblmdhaaGreat
/- What hexed and awake of layer 3's statements answer. -/
set_option linter.all false
set_option maxRecDepth 100000
namespace Go.Proofs.YtpigofooblmdhaaGreat
open Go.RowKit Go.Sort
set_option maxHeartbeats 2000000 in
theorem hexed_core (s G : ByteArray) (N E : Int) (w : World)
    (CP : ∀ W, Calls Tryz.prog 45 #[.string s] W fun e w' => e = .returned (.tuple #[nv N, .int .i64 E]) ∧ Below W.heap.size W w')
    (CB : ∀ W, Calls Tryz.prog 46 #[nv N] W fun e w' => e = .returned (.string G) ∧ Below W.heap.size W w') :
    Calls Tryz.prog 22 #[.string s] w fun e w' => e = .returned (.string G) ∧ Below w.heap.size w w' := by
  go_enter Tryz.func22, Tryz.ntmps22
  go_wp2_with fail
  refine (CP _).mono ?_
  rintro e w1 ⟨rfl, hb1⟩
  go_wp2_with fail
  refine (CB _).mono ?_
  rintro e w2 ⟨rfl, hb2⟩
  have hB2 := Bel.call (Bel.al hb1 (.cells #[.int .u64 (lim N 0), .int .u64 (lim N 1), .int .u64 (lim N 2), .int .u64 (lim N 3)] 34)) hb2
  go_wp2_with fail
  go_returns
  exact ⟨rfl, hB2⟩
theorem hexed_u (s : ByteArray) (hs : s.size ≤ maxLen) (w : World) : Calls Tryz.prog 22 #[.string s] w fun e w' => e = .returned (.string (mkS (bgL (paN s)))) ∧ Below w.heap.size w w' :=
  hexed_core s _ _ _ w (refParse_u s hs) (refBig_any _)
theorem flN_big (N : Int) : flN (mkS (bgL N)) = pn 8 (fun i => byt N (31 - i)) 32 := by
  unfold flN
  rw [if_pos (by rw [mkS_size]; simp [bgL])]
  refine pn_congr 8 _ _ 32 fun i hi => ?_
  have b := byt_bd N (31 - i)
  exact mkS_bt _ (31 - i) _ (bgL_at N (31 - i) (by omega)) b.1 b.2
theorem flN_little (N : Int) : flN (mkS (ltL N)) = pn 8 (byt N) 32 := by
  unfold flN
  rw [if_pos (by rw [mkS_size]; simp [ltL])]
  refine pn_congr 8 _ _ 32 fun i hi => ?_
  have b := byt_bd N (31 - (31 - i))
  rw [mkS_bt _ (31 - i) _ (ltL_at N (31 - i) (by omega)) b.1 b.2, show 31 - (31 - i) = i by omega]
def kT : ByteArray := ⟨#[97, 53, 52, 54, 101, 51, 54, 98, 102, 48, 53, 50, 55, 99, 57, 100, 51, 98, 49, 54, 49, 53, 52, 98, 56, 50, 52, 54, 53, 101, 100, 100, 54, 50, 49, 52, 52, 99, 48, 97, 99, 49, 102, 99, 53, 97, 49, 56, 53, 48, 54, 97, 50, 50, 52, 52, 98, 97, 52, 52, 57, 97, 99, 52]⟩
theorem kT_n : paN kT = 74756868917217338918917584016587037124861727485050470800130516242174941895364 := by
  unfold paN
  rw [if_pos ⟨by decide, by unfold alld; decide +kernel⟩]
  decide +kernel
def uT : ByteArray := ⟨#[101, 54, 100, 98, 54, 56, 54, 55, 53, 56, 51, 48, 51, 48, 100, 98, 51, 53, 57, 52, 99, 49, 97, 52, 50, 52, 98, 49, 53, 102, 55, 99, 55, 50, 54, 54, 50, 52, 101, 99, 50, 54, 98, 51, 51, 53, 51, 98, 49, 48, 97, 57, 48, 51, 97, 54, 100, 48, 97, 98, 49, 99, 52, 99]⟩
theorem uT_n : paN uT = 104419615249119614659739186697032859710140679125170609451633447793090120850508 := by
  unfold paN
  rw [if_pos ⟨by decide, by unfold alld; decide +kernel⟩]
  decide +kernel
def rT : ByteArray := ⟨#[99, 51, 100, 97, 53, 53, 51, 55, 57, 100, 101, 57, 99, 54, 57, 48, 56, 101, 57, 52, 101, 97, 52, 100, 102, 50, 56, 100, 48, 56, 52, 102, 51, 50, 101, 99, 99, 102, 48, 51, 52, 57, 49, 99, 55, 49, 102, 55, 53, 52, 98, 52, 48, 55, 53, 53, 55, 55, 97, 50, 56, 53, 53, 50]⟩
theorem rT_n : paN rT = 88586766281725376921413435608782555080348280383973441073918345390347211933010 := by
  unfold paN
  rw [if_pos ⟨by decide, by unfold alld; decide +kernel⟩]
  decide +kernel
theorem kS_n : flN (mkS (bgL 74756868917217338918917584016587037124861727485050470800130516242174941895364)) = 88925887110773138616681052956207043583107764937498542285260013040410376226469 := by rw [flN_big]; decide +kernel
theorem uS_n : flN (mkS (bgL 104419615249119614659739186697032859710140679125170609451633447793090120850508)) = 34426434033919594451155107781188821651316167215306631574996226621102155684838 := by rw [flN_big]; decide +kernel
theorem zS_n : flN (mkS (ltL 0)) = 0 := by rw [flN_little]; decide +kernel
theorem kC_n : cl 88925887110773138616681052956207043583107764937498542285260013040410376226469 = 31029842492115040904895560451863089656472772604678260265531221036453811406496 := by decide +kernel
theorem uC_n : c5 34426434033919594451155107781188821651316167215306631574996226621102155684838 % pp = 34426434033919594451155107781188821651316167215306631574996226621102155684838 := by decide +kernel
theorem big32 (N : Int) : (mkS (bgL N)).size = 32 := by rw [mkS_size]; simp [bgL]
theorem lit32 (N : Int) : (mkS (ltL N)).size = 32 := by rw [mkS_size]; simp [ltL]
theorem rS_n : rawS (mkS (bgL 74756868917217338918917584016587037124861727485050470800130516242174941895364)) (mkS (bgL 104419615249119614659739186697032859710140679125170609451633447793090120850508)) = mkS (bgL 88586766281725376921413435608782555080348280383973441073918345390347211933010) := by
  unfold rawS
  rw [if_pos ⟨big32 _, big32 _⟩, kS_n, uS_n, kC_n, uC_n, xr_a]
  exact congrArg mkS (by decide +kernel)
theorem rE_n (k u : ByteArray) (hk : k.size = 32) (hu : u.size = 32) : rawE k u = 0 := by unfold rawE; rw [if_pos hk, lenE_yes (by omega)]
theorem zR_n : rawS (mkS (bgL 74756868917217338918917584016587037124861727485050470800130516242174941895364)) (mkS (ltL 0)) = mkS (ltL 0) := by
  unfold rawS
  rw [if_pos ⟨big32 _, lit32 _⟩, kS_n, zS_n, kC_n, show c5 0 % pp = 0 by decide, xr_z]
theorem zE_n : shE (mkS (bgL 74756868917217338918917584016587037124861727485050470800130516242174941895364)) (mkS (ltL 0)) = 15 := by
  unfold shE
  rw [if_pos (rE_n _ _ (big32 _) (lit32 _)), if_pos (by rw [zR_n])]
set_option maxHeartbeats 4000000 in
theorem awake3_core (k u S z T : ByteArray) (w : World)
    (H1 : ∀ W, Calls Tryz.prog 22 #[.string ⟨#[97, 53, 52, 54, 101, 51, 54, 98, 102, 48, 53, 50, 55, 99, 57, 100, 51, 98, 49, 54, 49, 53, 52, 98, 56, 50, 52, 54, 53, 101, 100, 100, 54, 50, 49, 52, 52, 99, 48, 97, 99, 49, 102, 99, 53, 97, 49, 56, 53, 48, 54, 97, 50, 50, 52, 52, 98, 97, 52, 52, 57, 97, 99, 52]⟩] W fun e w' => e = .returned (.string k) ∧ Below W.heap.size W w')
    (H2 : ∀ W, Calls Tryz.prog 22 #[.string ⟨#[101, 54, 100, 98, 54, 56, 54, 55, 53, 56, 51, 48, 51, 48, 100, 98, 51, 53, 57, 52, 99, 49, 97, 52, 50, 52, 98, 49, 53, 102, 55, 99, 55, 50, 54, 54, 50, 52, 101, 99, 50, 54, 98, 51, 51, 53, 51, 98, 49, 48, 97, 57, 48, 51, 97, 54, 100, 48, 97, 98, 49, 99, 52, 99]⟩] W fun e w' => e = .returned (.string u) ∧ Below W.heap.size W w')
    (H3 : ∀ W, Calls Tryz.prog 22 #[.string ⟨#[99, 51, 100, 97, 53, 53, 51, 55, 57, 100, 101, 57, 99, 54, 57, 48, 56, 101, 57, 52, 101, 97, 52, 100, 102, 50, 56, 100, 48, 56, 52, 102, 51, 50, 101, 99, 99, 102, 48, 51, 52, 57, 49, 99, 55, 49, 102, 55, 53, 52, 98, 52, 48, 55, 53, 53, 55, 55, 97, 50, 56, 53, 53, 50]⟩] W fun e w' => e = .returned (.string S) ∧ Below W.heap.size W w')
    (CR : ∀ W, Calls Tryz.prog 9 #[.string k, .string u] W fun e w' => e = .returned (.tuple #[.string S, .int .i64 0]) ∧ Below W.heap.size W w')
    (CZ : ∀ W, Calls Tryz.prog 24 #[.agg #[.int .u64 0, .int .u64 0, .int .u64 0, .int .u64 0]] W fun e w' => e = .returned (.string z) ∧ Below W.heap.size W w')
    (CS : ∀ W, Calls Tryz.prog 23 #[.string k, .string z] W fun e w' => e = .returned (.tuple #[.string T, .int .i64 15]) ∧ Below W.heap.size W w') :
    Calls Tryz.prog 8 #[] w fun e w' => e = .returned (.bool true) ∧ Below w.heap.size w w' := by
  go_enter Tryz.func8, Tryz.ntmps8
  go_wp2_with fail
  refine (H1 _).mono ?_
  rintro e w1 ⟨rfl, hb⟩
  have hB := hb
  clear hb
  go_wp2_with fail
  refine (H2 _).mono ?_
  rintro e w2 ⟨rfl, hb⟩
  have hB' := Bel.call hB hb
  clear hb hB
  have hB := hB'
  clear hB'
  go_wp2_with fail
  refine (CR _).mono ?_
  rintro e w3 ⟨rfl, hb⟩
  have hB' := Bel.call hB hb
  clear hb hB
  have hB := hB'
  clear hB'
  go_wp2_with fail
  refine (CZ _).mono ?_
  rintro e w4 ⟨rfl, hb⟩
  have hB' := Bel.call hB hb
  clear hb hB
  have hB := hB'
  clear hB'
  go_wp2_with fail
  refine (CS _).mono ?_
  rintro e w5 ⟨rfl, hb⟩
  have hB' := Bel.call hB hb
  clear hb hB
  have hB := hB'
  clear hB'
  go_wp2_with fail
  refine (H3 _).mono ?_
  rintro e w6 ⟨rfl, hb⟩
  have hB' := Bel.call hB hb
  clear hb hB
  have hB := hB'
  clear hB'
  go_wp2_with fail
  go_returns
  exact ⟨rfl, hB⟩
theorem awake3 (w : World) : Calls Tryz.prog 8 #[] w fun e w' => e = .returned (.bool true) ∧ Below w.heap.size w w' := by
  have m32 : ∀ s : ByteArray, s.size = 32 → s.size ≤ maxLen := fun s h => by rw [h]; decide
  refine awake3_core (mkS (bgL 74756868917217338918917584016587037124861727485050470800130516242174941895364)) (mkS (bgL 104419615249119614659739186697032859710140679125170609451633447793090120850508)) (mkS (bgL 88586766281725376921413435608782555080348280383973441073918345390347211933010)) (mkS (ltL 0)) (shS (mkS (bgL 74756868917217338918917584016587037124861727485050470800130516242174941895364)) (mkS (ltL 0))) w (fun W => ?_) (fun W => ?_) (fun W => ?_) (fun W => ?_) (fun W => ?_) (fun W => ?_)
  · have := hexed_u kT (by decide) W
    rw [kT_n] at this
    exact this
  · have := hexed_u uT (by decide) W
    rw [uT_n] at this
    exact this
  · have := hexed_u rT (by decide) W
    rw [rT_n] at this
    exact this
  · have := raw_u (mkS (bgL 74756868917217338918917584016587037124861727485050470800130516242174941895364)) (mkS (bgL 104419615249119614659739186697032859710140679125170609451633447793090120850508)) (m32 _ (big32 _)) (m32 _ (big32 _)) W
    rw [rS_n, rE_n _ _ (big32 _) (big32 _)] at this
    exact this
  · have := refLittle_any 0 W
    rw [nv_zero] at this
    exact this
  · have := shared_u (mkS (bgL 74756868917217338918917584016587037124861727485050470800130516242174941895364)) (mkS (ltL 0)) (m32 _ (big32 _)) (m32 _ (lit32 _)) W
    rw [zE_n] at this
    exact this
end Go.Proofs.YtpigofooblmdhaaGreat
/- What the reference's Raw and Shared of layer 3 answer. -/
set_option linter.all false
set_option maxRecDepth 100000
namespace Go.Proofs.YtpigofooblmdhaaGreat
open Go.RowKit Go.Sort
set_option maxHeartbeats 2000000 in
theorem rraw_k (k u : ByteArray) (K E : Int) (hE : ¬ E = 0) (w : World)
    (CK : ∀ W, Calls Tryz.prog 29 #[.string k] W fun e w' => e = .returned (.tuple #[nv K, .int .i64 E]) ∧ Below W.heap.size W w') :
    Calls Tryz.prog 11 #[.string k, .string u] w fun e w' => e = .returned (.tuple #[.string ⟨#[]⟩, .int .i64 E]) ∧ Below w.heap.size w w' := by
  go_enter Tryz.func11, Tryz.ntmps11
  go_wp2_with fail
  refine (CK _).mono ?_
  rintro e w1 ⟨rfl, hb1⟩
  have hB1 := hb1
  have hS1 := hB1.size
  clear hb1 CK
  go_wp2_with fail
  go_returns
  exact ⟨rfl, by go_grown⟩
set_option maxHeartbeats 2000000 in
theorem rraw_e (k u : ByteArray) (K U E : Int) (hE : ¬ E = 0) (w : World)
    (CK : ∀ W, Calls Tryz.prog 29 #[.string k] W fun e w' => e = .returned (.tuple #[nv K, .int .i64 0]) ∧ Below W.heap.size W w')
    (CU : ∀ W, Calls Tryz.prog 16 #[.string u] W fun e w' => e = .returned (.tuple #[nv U, .int .i64 E]) ∧ Below W.heap.size W w') :
    Calls Tryz.prog 11 #[.string k, .string u] w fun e w' => e = .returned (.tuple #[.string ⟨#[]⟩, .int .i64 E]) ∧ Below w.heap.size w w' := by
  go_enter Tryz.func11, Tryz.ntmps11
  go_wp2_with fail
  refine (CK _).mono ?_
  rintro e w1 ⟨rfl, hb1⟩
  have hB1 := hb1
  have hS1 := hB1.size
  clear hb1 CK
  go_wp2_with fail
  refine (CU _).mono ?_
  rintro e w2 ⟨rfl, hb2⟩
  have Ak := (Arr.mk4 (w := w1.alloc (.cells #[.int .u64 (lim K 0), .int .u64 (lim K 1), .int .u64 (lim K 2), .int .u64 (lim K 3)] 34)) (f := fun j => .int .u64 (lim K j)) (b := w1.heap.size) (by simp [go_sem]) (by simp [go_sem]) (by simp [go_sem]) (by simp [go_sem]) (by simp [go_sem]) (by simp [go_sem]) (by simp [go_sem]) (by simp [go_sem])).below hb2 (by go_size)
  have hB2 := Bel.call (Bel.al hB1 (.cells #[.int .u64 (lim K 0), .int .u64 (lim K 1), .int .u64 (lim K 2), .int .u64 (lim K 3)] 34)) hb2
  have hS2 := hB2.size
  have lk := Ak.lt
  have ck := Ak.c
  clear hb2 CU hB1
  go_wp2_with fail
  go_returns
  exact ⟨rfl, by go_grown⟩
theorem rraw_u (k u : ByteArray) (hk : k.size ≤ maxLen) (hu : u.size ≤ maxLen) (w : World) :
    Calls Tryz.prog 11 #[.string k, .string u] w fun e w' => e = .returned (.tuple #[.string (rawS k u), .int .i64 (rawE k u)]) ∧ Below w.heap.size w w' := by
  have ck := fun W => rclamp_u k hk W
  have cu := fun W => rcoord_u u hu W
  unfold rawS rawE
  by_cases h : k.size = 32
  · rw [if_pos h, lenE_yes (by omega)] at ck
    rw [if_pos h]
    by_cases g : u.size = 32
    · rw [if_pos g, lenE_yes (by omega)] at cu
      rw [if_pos ⟨h, g⟩, lenE_yes (by omega)]
      have iU := inn_mod (c5 (flN u))
      have i4 := inn4_sts (c5 (flN u) % pp) iU (upto (cl (flN k)) 255 255)
      refine rraw_core k u _ _ _ _ (xr (cl (flN k)) (c5 (flN u) % pp)) (bw pp 2 4) iU w ck cu (fun W => ?_) (fun W => ?_) (fun W => rmul _ _ i4.1 (inn_mod _) W) (fun W => refLittle_any _ W)
      · have := refSub_raw pp 2 W
        rw [nv_low 2 (by decide) (by decide)] at this
        exact this
      · have := refPow_any _ (pp - 2) pp i4.2.1.1 i4.2.1.2 inn_p2.1 inn_p2.2 inn_pp.1 inn_pp.2 W
        rw [md_pos _ pp_pos] at this
        exact this
    · rw [if_neg (fun c => g c.2)]
      exact rraw_e k u _ _ _ (lenE_nz g) w ck cu
  · rw [if_neg (fun c => h c.1), if_neg h]
    exact rraw_k k u _ _ (lenE_nz h) w ck
end Go.Proofs.YtpigofooblmdhaaGreat
/- What height, isSquare and On of xdh answer, and Public. -/
set_option linter.all false
set_option maxRecDepth 100000
namespace Go.Proofs.YtpigofooblmdhaaGreat
open Go.RowKit Go.Sort
theorem xaddc (B : Int) (iB : Inn B) (w : World) : Calls Tryz.prog 37 #[nv B, .agg #[.int .u64 486662, .int .u64 0, .int .u64 0, .int .u64 0]] w fun e w' => e = .returned (nv (fa B 486662)) ∧ Below w.heap.size w w' := by
  rw [← nv_low 486662 (by decide) (by decide)]; exact xadd B 486662 iB ⟨by decide, by decide⟩ w
theorem xadd1 (B : Int) (iB : Inn B) (w : World) : Calls Tryz.prog 37 #[nv B, .agg #[.int .u64 1, .int .u64 0, .int .u64 0, .int .u64 0]] w fun e w' => e = .returned (nv (fa B 1)) ∧ Below w.heap.size w w' := by
  rw [← nv_low 1 (by decide) (by decide)]; exact xadd B 1 iB ⟨by decide, by decide⟩ w
theorem raddc (B : Int) (iB : Inn B) (w : World) : Calls Tryz.prog 18 #[nv B, .agg #[.int .u64 486662, .int .u64 0, .int .u64 0, .int .u64 0]] w fun e w' => e = .returned (nv (fa B 486662)) ∧ Below w.heap.size w w' := by
  rw [← nv_low 486662 (by decide) (by decide)]; exact radd B 486662 iB ⟨by decide, by decide⟩ w
theorem radd1 (B : Int) (iB : Inn B) (w : World) : Calls Tryz.prog 18 #[nv B, .agg #[.int .u64 1, .int .u64 0, .int .u64 0, .int .u64 0]] w fun e w' => e = .returned (nv (fa B 1)) ∧ Below w.heap.size w w' := by
  rw [← nv_low 1 (by decide) (by decide)]; exact radd B 1 iB ⟨by decide, by decide⟩ w
/-- x^3 + 486662 x^2 + x. -/
def hh (X : Int) : Int := fm X (fa (fm X (fa X 486662)) 1)
set_option maxHeartbeats 4000000 in
theorem height_any (X : Int) (iX : Inn X) (w : World) : Calls Tryz.prog 15 #[nv X] w fun e w' => e = .returned (nv (hh X)) ∧ Below w.heap.size w w' := by
  unfold hh
  go_enter Tryz.func15, Tryz.ntmps15
  go_wp2_with fail
  have Bx := Arr.mk4 (w := ((w.alloc (.cells #[.int .u64 (lim (X) 0), .int .u64 (lim (X) 1), .int .u64 (lim (X) 2), .int .u64 (lim (X) 3)] 34)).alloc (.cells #[.int .u64 0, .int .u64 0, .int .u64 0, .int .u64 0] 34))) (f := fun j => .int .u64 (lim (X) j)) (b := w.heap.size) (by simp [go_sem]) (by simp [go_sem]) (by simp [go_sem]) (by simp [go_sem]) (by simp [go_sem]) (by simp [go_sem]) (by simp [go_sem]) (by simp [go_sem])
  have Bz := Arr.mk4 (w := ((w.alloc (.cells #[.int .u64 (lim (X) 0), .int .u64 (lim (X) 1), .int .u64 (lim (X) 2), .int .u64 (lim (X) 3)] 34)).alloc (.cells #[.int .u64 0, .int .u64 0, .int .u64 0, .int .u64 0] 34))) (f := fun _ => .int .u64 0) (b := w.heap.size + 1) (by simp [go_sem]) (by simp [go_sem]) (by simp [go_sem]) (by simp [go_sem]) (by simp [go_sem]) (by simp [go_sem]) (by simp [go_sem]) (by simp [go_sem])
  have hB' : Below w.heap.size w ((w.alloc (.cells #[.int .u64 (lim (X) 0), .int .u64 (lim (X) 1), .int .u64 (lim (X) 2), .int .u64 (lim (X) 3)] 34)).alloc (.cells #[.int .u64 0, .int .u64 0, .int .u64 0, .int .u64 0] 34)) := by go_grown
  have Ax := Bx
  have Az := Bz
  have hB := hB'
  clear Bx Bz hB'
  apply wp_region_alloc_tail 7 (by kernel_rfl) (by kernel_rfl) (by kernel_rfl) (.cells #[.int .u64 0, .int .u64 0, .int .u64 0, .int .u64 0] 34) _ rfl (fun _ _ => by simp [go_sem])
  · intro W hW
    have rx0 := fun ds os => cell_regrown ((Arr.to' Ax hW).c 0 (by omega)) ds os
    have rx1 := fun ds os => cell_regrown ((Arr.to' Ax hW).c 1 (by omega)) ds os
    have rx2 := fun ds os => cell_regrown ((Arr.to' Ax hW).c 2 (by omega)) ds os
    have rx3 := fun ds os => cell_regrown ((Arr.to' Ax hW).c 3 (by omega)) ds os
    simp only [List.take_succ_cons, List.take_zero]
    repeat (go_big_quiet_step (first | (go_at_call 38; with_reducible exact Calls.regrown_of (xmul _ _ (by first | exact inn_fm _ _ | exact inn_fa _ _ | exact inn_fs _ _ | assumption) (by first | exact inn_fm _ _ | exact inn_fa _ _ | exact inn_fs _ _ | assumption) _)) | (go_at_call 37; with_reducible exact Calls.regrown_of (xaddc _ iX _)) | (go_at_call 37; with_reducible exact Calls.regrown_of (xadd1 _ (inn_fm _ _) _))))
    exact wpQuiet_nil rfl
  intro u1 w11 hb1 hb2
  simp only [List.drop_succ_cons, List.drop_zero, Act.put, List.setIfInBounds_toArray, List.set_cons_succ, List.set_cons_zero]
  have Ex := Arr.to' Ax hb1
  have lx_u1 := Ex.lt
  have Bx := Arr.to' (Arr.al' Ex (.cells #[.int .u64 0, .int .u64 0, .int .u64 0, .int .u64 0] 34)) hb2
  have Ez := Arr.to' Az hb1
  have lz_u1 := Ez.lt
  have Bz := Arr.to' (Arr.al' Ez (.cells #[.int .u64 0, .int .u64 0, .int .u64 0, .int .u64 0] 34)) hb2
  have Bi := (Arr.mk4 (w := (u1.alloc (.cells #[.int .u64 0, .int .u64 0, .int .u64 0, .int .u64 0] 34))) (f := fun _ => .int .u64 0) (b := u1.heap.size) (by simp [go_sem]) (by simp [go_sem]) (by simp [go_sem]) (by simp [go_sem]) (by simp [go_sem]) (by simp [go_sem]) (by simp [go_sem]) (by simp [go_sem])).below hb2 (by go_size)
  have lB_u1 := (Bel.call hB hb1).size
  have hB' := Bel.call (Bel.al (Bel.call hB hb1) (.cells #[.int .u64 0, .int .u64 0, .int .u64 0, .int .u64 0] 34)) hb2
  clear hb1 hb2 Ex Ez Ax Az hB
  have Ax := Bx
  have Az := Bz
  have Ai := Bi
  have hB := hB'
  clear Bx Bz Bi hB'
  have ci := Ai.c
  have zi := Ai.z
  have Bx := Arr.st4o (b' := u1.heap.size) Ax (by have := Ax.lt; have := Ai.lt; omega) (fa (fm X (fa X 486662)) 1)
  have Bz := Arr.st4o (b' := u1.heap.size) Az (by have := Az.lt; have := Ai.lt; omega) (fa (fm X (fa X 486662)) 1)
  have Bi := Arr.st4 Ai (fa (fm X (fa X 486662)) 1)
  have hB' := Bel.st4 hB (b := u1.heap.size) (by have := hB.size; omega) (fa (fm X (fa X 486662)) 1)
  clear Ax Az Ai hB
  have Ax := Bx
  have Az := Bz
  have Ai := Bi
  have hB := hB'
  clear Bx Bz Bi hB'
  have cx := Ax.c
  have cz := Az.c
  have zz := Az.z
  go_wp2_with fail
  refine (xmul X (fa (fm X (fa X 486662)) 1) iX (inn_fa _ _) _).mono ?_
  rintro e w12 ⟨rfl, hb⟩
  have Bz := Arr.to' Az hb
  have hB' := Bel.call hB hb
  clear hb ci zi cx cz zz Ax Az Ai hB
  have Az := Bz
  have hB := hB'
  clear Bz hB'
  have hS := hB.size
  have cz := Az.c
  have zz := Az.z
  go_wp2_with fail
  refine bodyPost_ret (v := nv (fm X (fa (fm X (fa X 486662)) 1))) (by simp [results, Tryz.results15, go_sem, cz]) rfl ⟨rfl, ?_⟩
  go_grown
/-- A number is 0, part by part. -/
def z4 (N : Int) : Bool := lim N 0 == 0 && (lim N 1 == 0 && (lim N 2 == 0 && lim N 3 == 0))
/-- A number is 1, part by part. -/
def o4 (N : Int) : Bool := lim N 0 == 1 && (lim N 1 == 0 && (lim N 2 == 0 && lim N 3 == 0))
section
attribute [local go_sem] eq24
set_option maxHeartbeats 4000000 in
theorem isSquare_0 (H Q P1 R1 er Y : Int) (hz : (lim H 0 == 0 && (lim H 1 == 0 && (lim H 2 == 0 && lim H 3 == 0))) = true) (w : World)
    (CD : ∀ W, Calls Tryz.prog 35 #[nv pp, .agg #[.int .u64 0, .int .u64 0, .int .u64 0, .int .u64 0], .agg #[.int .u64 2, .int .u64 0, .int .u64 0, .int .u64 0]] W fun e w' => e = .returned (.tuple #[nv Q, nv P1, nv R1, .int .i64 er]) ∧ Below W.heap.size W w')
    (CP : ∀ W, Calls Tryz.prog 36 #[nv H, nv Q, nv pp] W fun e w' => e = .returned (nv Y) ∧ Below W.heap.size W w') :
    Calls Tryz.prog 14 #[nv H] w fun e w' => e = .returned (.bool true) ∧ Below w.heap.size w w' := by
  go_enter Tryz.func14, Tryz.ntmps14
  have Bn := Arr.mk4 (w := (w.alloc (.cells #[.int .u64 (lim (H) 0), .int .u64 (lim (H) 1), .int .u64 (lim (H) 2), .int .u64 (lim (H) 3)] 34))) (f := fun j => .int .u64 (lim (H) j)) (b := w.heap.size) (by simp [go_sem]) (by simp [go_sem]) (by simp [go_sem]) (by simp [go_sem]) (by simp [go_sem]) (by simp [go_sem]) (by simp [go_sem]) (by simp [go_sem])
  have hB' : Below w.heap.size w (w.alloc (.cells #[.int .u64 (lim (H) 0), .int .u64 (lim (H) 1), .int .u64 (lim (H) 2), .int .u64 (lim (H) 3)] 34)) := by go_grown
  have An := Bn
  have hB := hB'
  clear Bn hB'
  go_wp2_with fail
  refine (p21 _).mono ?_
  rintro e w1 ⟨rfl, hb⟩
  have Bn := Arr.to' An hb
  have hB' := Bel.call hB hb
  clear hb An hB
  have An := Bn
  have hB := hB'
  clear Bn hB'
  go_wp2_with fail
  refine (CD _).mono ?_
  rintro e w12 ⟨rfl, hb⟩
  have Bn := Arr.to' An hb
  have hB' := Bel.call hB hb
  clear hb An hB CD
  have An := Bn
  have hB := hB'
  clear Bn hB'
  have ln_2 := An.lt
  have lB_2 := hB.size
  have Bn := (Arr.al' (Arr.al' (Arr.al' An (.cells #[.int .u64 (lim (Q) 0), .int .u64 (lim (Q) 1), .int .u64 (lim (Q) 2), .int .u64 (lim (Q) 3)] 34)) (.cells #[.int .u64 (lim (P1) 0), .int .u64 (lim (P1) 1), .int .u64 (lim (P1) 2), .int .u64 (lim (P1) 3)] 34)) (.cells #[.int .u64 (lim (R1) 0), .int .u64 (lim (R1) 1), .int .u64 (lim (R1) 2), .int .u64 (lim (R1) 3)] 34))
  have Bq := Arr.mk4 (w := (((w12.alloc (.cells #[.int .u64 (lim (Q) 0), .int .u64 (lim (Q) 1), .int .u64 (lim (Q) 2), .int .u64 (lim (Q) 3)] 34)).alloc (.cells #[.int .u64 (lim (P1) 0), .int .u64 (lim (P1) 1), .int .u64 (lim (P1) 2), .int .u64 (lim (P1) 3)] 34)).alloc (.cells #[.int .u64 (lim (R1) 0), .int .u64 (lim (R1) 1), .int .u64 (lim (R1) 2), .int .u64 (lim (R1) 3)] 34))) (f := fun j => .int .u64 (lim (Q) j)) (b := w12.heap.size) (by simp [go_sem]) (by simp [go_sem]) (by simp [go_sem]) (by simp [go_sem]) (by simp [go_sem]) (by simp [go_sem]) (by simp [go_sem]) (by simp [go_sem])
  have hB' := (Bel.al (Bel.al (Bel.al hB (.cells #[.int .u64 (lim (Q) 0), .int .u64 (lim (Q) 1), .int .u64 (lim (Q) 2), .int .u64 (lim (Q) 3)] 34)) (.cells #[.int .u64 (lim (P1) 0), .int .u64 (lim (P1) 1), .int .u64 (lim (P1) 2), .int .u64 (lim (P1) 3)] 34)) (.cells #[.int .u64 (lim (R1) 0), .int .u64 (lim (R1) 1), .int .u64 (lim (R1) 2), .int .u64 (lim (R1) 3)] 34))
  clear An hB
  have An := Bn
  have Aq := Bq
  have hB := hB'
  clear Bn Bq hB'
  have rn0 := fun ds os => cell_regrown (An.c 0 (by omega)) ds os
  have rn1 := fun ds os => cell_regrown (An.c 1 (by omega)) ds os
  have rn2 := fun ds os => cell_regrown (An.c 2 (by omega)) ds os
  have rn3 := fun ds os => cell_regrown (An.c 3 (by omega)) ds os
  have rq0 := fun ds os => cell_regrown (Aq.c 0 (by omega)) ds os
  have rq1 := fun ds os => cell_regrown (Aq.c 1 (by omega)) ds os
  have rq2 := fun ds os => cell_regrown (Aq.c 2 (by omega)) ds os
  have rq3 := fun ds os => cell_regrown (Aq.c 3 (by omega)) ds os
  go_wp2_with fail
  refine wp_region_quiet_below (by kernel_rfl) (by kernel_rfl) ?_
  repeat (go_big_quiet_step (first | (go_at_call 34; with_reducible exact Calls.regrown_of (p21 _)) | (go_at_call 36; with_reducible exact Calls.regrown_of (CP _))))
  refine wpQuiet_nil ?_
  intro w3 hw'
  obtain ⟨⟨dq, osq⟩, hw''⟩ := hw'
  have hb := below_of hw''
  clear hw''
  have hB' := Bel.call hB hb
  clear hb rn0 rn1 rn2 rn3 rq0 rq1 rq2 rq3 An Aq hB
  have hB := hB'
  clear hB'
  go_wp2_with fail
  go_ret
  exact ⟨rfl, hB⟩
set_option maxHeartbeats 4000000 in
theorem isSquare_1 (H Q P1 R1 er Y : Int) (hz : (lim H 0 == 0 && (lim H 1 == 0 && (lim H 2 == 0 && lim H 3 == 0))) = false) (w : World)
    (CD : ∀ W, Calls Tryz.prog 35 #[nv pp, .agg #[.int .u64 0, .int .u64 0, .int .u64 0, .int .u64 0], .agg #[.int .u64 2, .int .u64 0, .int .u64 0, .int .u64 0]] W fun e w' => e = .returned (.tuple #[nv Q, nv P1, nv R1, .int .i64 er]) ∧ Below W.heap.size W w')
    (CP : ∀ W, Calls Tryz.prog 36 #[nv H, nv Q, nv pp] W fun e w' => e = .returned (nv Y) ∧ Below W.heap.size W w') :
    Calls Tryz.prog 14 #[nv H] w fun e w' => e = .returned (.bool (lim Y 0 == 1 && (lim Y 1 == 0 && (lim Y 2 == 0 && lim Y 3 == 0)))) ∧ Below w.heap.size w w' := by
  go_enter Tryz.func14, Tryz.ntmps14
  have Bn := Arr.mk4 (w := (w.alloc (.cells #[.int .u64 (lim (H) 0), .int .u64 (lim (H) 1), .int .u64 (lim (H) 2), .int .u64 (lim (H) 3)] 34))) (f := fun j => .int .u64 (lim (H) j)) (b := w.heap.size) (by simp [go_sem]) (by simp [go_sem]) (by simp [go_sem]) (by simp [go_sem]) (by simp [go_sem]) (by simp [go_sem]) (by simp [go_sem]) (by simp [go_sem])
  have hB' : Below w.heap.size w (w.alloc (.cells #[.int .u64 (lim (H) 0), .int .u64 (lim (H) 1), .int .u64 (lim (H) 2), .int .u64 (lim (H) 3)] 34)) := by go_grown
  have An := Bn
  have hB := hB'
  clear Bn hB'
  go_wp2_with fail
  refine (p21 _).mono ?_
  rintro e w1 ⟨rfl, hb⟩
  have Bn := Arr.to' An hb
  have hB' := Bel.call hB hb
  clear hb An hB
  have An := Bn
  have hB := hB'
  clear Bn hB'
  go_wp2_with fail
  refine (CD _).mono ?_
  rintro e w12 ⟨rfl, hb⟩
  have Bn := Arr.to' An hb
  have hB' := Bel.call hB hb
  clear hb An hB CD
  have An := Bn
  have hB := hB'
  clear Bn hB'
  have ln_2 := An.lt
  have lB_2 := hB.size
  have Bn := (Arr.al' (Arr.al' (Arr.al' An (.cells #[.int .u64 (lim (Q) 0), .int .u64 (lim (Q) 1), .int .u64 (lim (Q) 2), .int .u64 (lim (Q) 3)] 34)) (.cells #[.int .u64 (lim (P1) 0), .int .u64 (lim (P1) 1), .int .u64 (lim (P1) 2), .int .u64 (lim (P1) 3)] 34)) (.cells #[.int .u64 (lim (R1) 0), .int .u64 (lim (R1) 1), .int .u64 (lim (R1) 2), .int .u64 (lim (R1) 3)] 34))
  have Bq := Arr.mk4 (w := (((w12.alloc (.cells #[.int .u64 (lim (Q) 0), .int .u64 (lim (Q) 1), .int .u64 (lim (Q) 2), .int .u64 (lim (Q) 3)] 34)).alloc (.cells #[.int .u64 (lim (P1) 0), .int .u64 (lim (P1) 1), .int .u64 (lim (P1) 2), .int .u64 (lim (P1) 3)] 34)).alloc (.cells #[.int .u64 (lim (R1) 0), .int .u64 (lim (R1) 1), .int .u64 (lim (R1) 2), .int .u64 (lim (R1) 3)] 34))) (f := fun j => .int .u64 (lim (Q) j)) (b := w12.heap.size) (by simp [go_sem]) (by simp [go_sem]) (by simp [go_sem]) (by simp [go_sem]) (by simp [go_sem]) (by simp [go_sem]) (by simp [go_sem]) (by simp [go_sem])
  have hB' := (Bel.al (Bel.al (Bel.al hB (.cells #[.int .u64 (lim (Q) 0), .int .u64 (lim (Q) 1), .int .u64 (lim (Q) 2), .int .u64 (lim (Q) 3)] 34)) (.cells #[.int .u64 (lim (P1) 0), .int .u64 (lim (P1) 1), .int .u64 (lim (P1) 2), .int .u64 (lim (P1) 3)] 34)) (.cells #[.int .u64 (lim (R1) 0), .int .u64 (lim (R1) 1), .int .u64 (lim (R1) 2), .int .u64 (lim (R1) 3)] 34))
  clear An hB
  have An := Bn
  have Aq := Bq
  have hB := hB'
  clear Bn Bq hB'
  have rn0 := fun ds os => cell_regrown (An.c 0 (by omega)) ds os
  have rn1 := fun ds os => cell_regrown (An.c 1 (by omega)) ds os
  have rn2 := fun ds os => cell_regrown (An.c 2 (by omega)) ds os
  have rn3 := fun ds os => cell_regrown (An.c 3 (by omega)) ds os
  have rq0 := fun ds os => cell_regrown (Aq.c 0 (by omega)) ds os
  have rq1 := fun ds os => cell_regrown (Aq.c 1 (by omega)) ds os
  have rq2 := fun ds os => cell_regrown (Aq.c 2 (by omega)) ds os
  have rq3 := fun ds os => cell_regrown (Aq.c 3 (by omega)) ds os
  go_wp2_with fail
  refine wp_region_quiet_below (by kernel_rfl) (by kernel_rfl) ?_
  repeat (go_big_quiet_step (first | (go_at_call 34; with_reducible exact Calls.regrown_of (p21 _)) | (go_at_call 36; with_reducible exact Calls.regrown_of (CP _))))
  refine wpQuiet_nil ?_
  intro w3 hw'
  obtain ⟨⟨dq, osq⟩, hw''⟩ := hw'
  have hb := below_of hw''
  clear hw''
  have hB' := Bel.call hB hb
  clear hb rn0 rn1 rn2 rn3 rq0 rq1 rq2 rq3 An Aq hB
  have hB := hB'
  clear hB'
  go_wp2_with fail
  go_ret
  exact ⟨rfl, hB⟩
end
/-- A number is 0, or a square. -/
def sqB (H : Int) : Bool := z4 H || o4 (H ^ (pp / 2).toNat % pp)
theorem inn_half : Inn (pp / 2) := ⟨by decide, by decide⟩
theorem isSquare_any (H : Int) (iH : Inn H) (w : World) : Calls Tryz.prog 14 #[nv H] w fun e w' => e = .returned (.bool (sqB H)) ∧ Below w.heap.size w w' := by
  have cd : ∀ W, Calls Tryz.prog 35 #[nv pp, .agg #[.int .u64 0, .int .u64 0, .int .u64 0, .int .u64 0], .agg #[.int .u64 2, .int .u64 0, .int .u64 0, .int .u64 0]] W fun e w' => e = .returned (.tuple #[nv (pp / 2), nv (pp / 2 / top256), nv (pp % 2), .int .i64 0]) ∧ Below W.heap.size W w' := fun W => by
    have := div_any pp 0 2 inn_pp.1 inn_pp.2 (by omega) (by decide) (by omega) (by decide) W
    rw [nv_zero, nv_low 2 (by decide) (by decide), Int.zero_mul, Int.add_zero] at this
    exact this
  have cp : ∀ W, Calls Tryz.prog 36 #[nv H, nv (pp / 2), nv pp] W fun e w' => e = .returned (nv (H ^ (pp / 2).toNat % pp)) ∧ Below W.heap.size W w' := fun W => by
    have := pow_any H (pp / 2) pp iH.1 iH.2 inn_half.1 inn_half.2 inn_pp.1 inn_pp.2 W
    rw [md_pos _ pp_pos] at this
    exact this
  unfold sqB
  cases hz : z4 H
  · rw [Bool.false_or]
    exact isSquare_1 H _ _ _ _ _ hz w cd cp
  · rw [Bool.true_or]
    exact isSquare_0 H _ _ _ _ _ hz w cd cp
set_option maxHeartbeats 2000000 in
theorem on_no (u : ByteArray) (X E : Int) (hE : ¬ E = 0) (w : World)
    (CC : ∀ W, Calls Tryz.prog 13 #[.string u] W fun e w' => e = .returned (.tuple #[nv X, .int .i64 E]) ∧ Below W.heap.size W w') :
    Calls Tryz.prog 6 #[.string u] w fun e w' => e = .returned (.bool false) ∧ Below w.heap.size w w' := by
  have hE' : (E == 0) = false := by simpa using hE
  go_enter Tryz.func6, Tryz.ntmps6
  go_wp2_with fail
  refine (CC _).mono ?_
  rintro e w1 ⟨rfl, hb⟩
  have hS := hb.size
  go_wp2_with fail
  go_returns
  exact ⟨rfl, Bel.al hb _⟩
set_option maxHeartbeats 2000000 in
theorem on_yes (u : ByteArray) (X H : Int) (b : Bool) (w : World)
    (CC : ∀ W, Calls Tryz.prog 13 #[.string u] W fun e w' => e = .returned (.tuple #[nv X, .int .i64 0]) ∧ Below W.heap.size W w')
    (CH : ∀ W, Calls Tryz.prog 15 #[nv X] W fun e w' => e = .returned (nv H) ∧ Below W.heap.size W w')
    (CQ : ∀ W, Calls Tryz.prog 14 #[nv H] W fun e w' => e = .returned (.bool b) ∧ Below W.heap.size W w') :
    Calls Tryz.prog 6 #[.string u] w fun e w' => e = .returned (.bool b) ∧ Below w.heap.size w w' := by
  go_enter Tryz.func6, Tryz.ntmps6
  go_wp2_with fail
  refine (CC _).mono ?_
  rintro e w1 ⟨rfl, hb⟩
  have hB := hb
  clear hb CC
  go_wp2_with fail
  refine (CH _).mono ?_
  rintro e w2 ⟨rfl, hb⟩
  have hB2 := Bel.call (Bel.al hB _) hb
  clear hb CH hB
  go_wp2_with fail
  refine (CQ _).mono ?_
  rintro e w3 ⟨rfl, hb⟩
  have hB3 := Bel.call hB2 hb
  clear hb CQ hB2
  go_wp2_with fail
  go_returns
  exact ⟨rfl, hB3⟩
/-- On. -/
def onB (u : ByteArray) : Bool := if u.size = 32 then sqB (hh (c5 (flN u) % pp)) else false
theorem on_u (u : ByteArray) (hu : u.size ≤ maxLen) (w : World) : Calls Tryz.prog 6 #[.string u] w fun e w' => e = .returned (.bool (onB u)) ∧ Below w.heap.size w w' := by
  have cu := fun W => coord_u u hu W
  unfold onB
  by_cases g : u.size = 32
  · rw [if_pos g, lenE_yes (by omega)] at cu
    rw [if_pos g]
    exact on_yes u _ _ _ w cu (height_any _ (inn_mod _)) (isSquare_any _ (inn_fm _ _))
  · rw [if_neg g]
    exact on_no u _ _ (lenE_nz g) w cu
set_option maxHeartbeats 2000000 in
theorem pub_core (k z S : ByteArray) (E : Int) (w : World)
    (CL : ∀ W, Calls Tryz.prog 10 #[.agg #[.int .u64 9, .int .u64 0, .int .u64 0, .int .u64 0]] W fun e w' => e = .returned (.string z) ∧ Below W.heap.size W w')
    (CR : ∀ W, Calls Tryz.prog 9 #[.string k, .string z] W fun e w' => e = .returned (.tuple #[.string S, .int .i64 E]) ∧ Below W.heap.size W w') :
    Calls Tryz.prog 4 #[.string k] w fun e w' => e = .returned (.tuple #[.string S, .int .i64 E]) ∧ Below w.heap.size w w' := by
  go_enter Tryz.func4, Tryz.ntmps4
  go_wp2_with fail
  refine (CL _).mono ?_
  rintro e w1 ⟨rfl, hb⟩
  have hB := hb
  clear hb
  go_wp2_with fail
  refine (CR _).mono ?_
  rintro e w2 ⟨rfl, hb⟩
  have hB' := Bel.call hB hb
  clear hb hB
  have hB := hB'
  clear hB'
  go_wp2_with fail
  go_returns
  exact ⟨rfl, hB⟩
set_option maxHeartbeats 2000000 in
theorem nine_core (z : ByteArray) (w : World)
    (CL : ∀ W, Calls Tryz.prog 24 #[.agg #[.int .u64 9, .int .u64 0, .int .u64 0, .int .u64 0]] W fun e w' => e = .returned (.string z) ∧ Below W.heap.size W w') :
    Calls Tryz.prog 12 #[] w fun e w' => e = .returned (.string z) ∧ Below w.heap.size w w' := by
  go_enter Tryz.func12, Tryz.ntmps12
  go_wp2_with fail
  refine (CL _).mono ?_
  rintro e w1 ⟨rfl, hb⟩
  have hB := hb
  clear hb
  go_wp2_with fail
  go_returns
  exact ⟨rfl, hB⟩
set_option maxHeartbeats 2000000 in
theorem rpub_core (k z S : ByteArray) (E : Int) (w : World)
    (CL : ∀ W, Calls Tryz.prog 12 #[] W fun e w' => e = .returned (.string z) ∧ Below W.heap.size W w')
    (CR : ∀ W, Calls Tryz.prog 11 #[.string k, .string z] W fun e w' => e = .returned (.tuple #[.string S, .int .i64 E]) ∧ Below W.heap.size W w') :
    Calls Tryz.prog 5 #[.string k] w fun e w' => e = .returned (.tuple #[.string S, .int .i64 E]) ∧ Below w.heap.size w w' := by
  go_enter Tryz.func5, Tryz.ntmps5
  go_wp2_with fail
  refine (CL _).mono ?_
  rintro e w1 ⟨rfl, hb⟩
  have hB := hb
  clear hb
  go_wp2_with fail
  refine (CR _).mono ?_
  rintro e w2 ⟨rfl, hb⟩
  have hB' := Bel.call hB hb
  clear hb hB
  have hB := hB'
  clear hB'
  go_wp2_with fail
  go_returns
  exact ⟨rfl, hB⟩
theorem pub_u (k : ByteArray) (hk : k.size ≤ maxLen) (w : World) : Calls Tryz.prog 4 #[.string k] w fun e w' => e = .returned (.tuple #[.string (rawS k (mkS (ltL 9))), .int .i64 (rawE k (mkS (ltL 9)))]) ∧ Below w.heap.size w w' := by
  refine pub_core k (mkS (ltL 9)) _ _ w (fun W => ?_) (fun W => raw_u k _ hk (by rw [lit32]; decide) W)
  have := little_any 9 (by omega) (by decide) W
  rw [nv_low 9 (by decide) (by decide)] at this
  exact this
theorem nine_u (w : World) : Calls Tryz.prog 12 #[] w fun e w' => e = .returned (.string (mkS (ltL 9))) ∧ Below w.heap.size w w' := by
  refine nine_core _ w fun W => ?_
  have := refLittle_any 9 W
  rw [nv_low 9 (by decide) (by decide)] at this
  exact this
theorem rpub_u (k : ByteArray) (hk : k.size ≤ maxLen) (w : World) : Calls Tryz.prog 5 #[.string k] w fun e w' => e = .returned (.tuple #[.string (rawS k (mkS (ltL 9))), .int .i64 (rawE k (mkS (ltL 9)))]) ∧ Below w.heap.size w w' :=
  rpub_core k (mkS (ltL 9)) _ _ w nine_u (fun W => rraw_u k _ hk (by rw [lit32]; decide) W)
end Go.Proofs.YtpigofooblmdhaaGreat
/- What the reference's On answers. -/
set_option linter.all false
set_option maxRecDepth 100000
namespace Go.Proofs.YtpigofooblmdhaaGreat
open Go.RowKit Go.Sort
theorem b_and1 (z : Int) (h0 : 0 ≤ z) (h1 : z < 18446744073709551616) : bits .and .u64 z 1 = z % 2 := by go_bits2
set_option maxHeartbeats 2000000 in
theorem ron_no (u : ByteArray) (X E : Int) (hE : ¬ E = 0) (w : World)
    (CC : ∀ W, Calls Tryz.prog 16 #[.string u] W fun e w' => e = .returned (.tuple #[nv X, .int .i64 E]) ∧ Below W.heap.size W w') :
    Calls Tryz.prog 7 #[.string u] w fun e w' => e = .returned (.bool false) ∧ Below w.heap.size w w' := by
  have hE' : (E == 0) = false := by simpa using hE
  go_enter Tryz.func7, Tryz.ntmps7
  go_wp2_with fail
  refine (CC _).mono ?_
  rintro e w1 ⟨rfl, hb⟩
  have hS := hb.size
  go_wp2_with fail
  go_returns
  exact ⟨rfl, Bel.al hb _⟩
section
attribute [local go_sem] eq24
set_option maxHeartbeats 8000000 in
theorem ron_0 (u : ByteArray) (X Y bo : Int) (iX : Inn X) (hz : (lim (fm X (fa (fm X (fa X 486662)) 1)) 0 == 0 && (lim (fm X (fa (fm X (fa X 486662)) 1)) 1 == 0 && (lim (fm X (fa (fm X (fa X 486662)) 1)) 2 == 0 && lim (fm X (fa (fm X (fa X 486662)) 1)) 3 == 0))) = true) (w : World)
    (CC : ∀ W, Calls Tryz.prog 16 #[.string u] W fun e w' => e = .returned (.tuple #[nv X, .int .i64 0]) ∧ Below W.heap.size W w')
    (CS : ∀ W, Calls Tryz.prog 19 #[nv pp, .agg #[.int .u64 1, .int .u64 0, .int .u64 0, .int .u64 0]] W fun e w' => e = .returned (.tuple #[nv (pp - 1), .int .u64 bo]) ∧ Below W.heap.size W w')
    (CP : ∀ W, Calls Tryz.prog 21 #[nv (fm X (fa (fm X (fa X 486662)) 1)), nv ((pp - 1) / 2), nv pp] W fun e w' => e = .returned (nv Y) ∧ Below W.heap.size W w') :
    Calls Tryz.prog 7 #[.string u] w fun e w' => e = .returned (.bool true) ∧ Below w.heap.size w w' := by
  go_enter Tryz.func7, Tryz.ntmps7
  go_wp2_with fail
  refine (CC _).mono ?_
  rintro e w1 ⟨rfl, hb⟩
  have hB := hb
  clear hb CC
  have lB_1 := hB.size
  have Bx := Arr.mk4 (w := (w1.alloc (.cells #[.int .u64 (lim (X) 0), .int .u64 (lim (X) 1), .int .u64 (lim (X) 2), .int .u64 (lim (X) 3)] 34))) (f := fun j => .int .u64 (lim (X) j)) (b := w1.heap.size) (by simp [go_sem]) (by simp [go_sem]) (by simp [go_sem]) (by simp [go_sem]) (by simp [go_sem]) (by simp [go_sem]) (by simp [go_sem]) (by simp [go_sem])
  have hB' := (Bel.al hB (.cells #[.int .u64 (lim (X) 0), .int .u64 (lim (X) 1), .int .u64 (lim (X) 2), .int .u64 (lim (X) 3)] 34))
  clear hB
  have Ax := Bx
  have hB := hB'
  clear Bx hB'
  go_wp2_with fail
  apply wp_region_alloc_tail 9 (by kernel_rfl) (by kernel_rfl) (by kernel_rfl) (.cells #[.int .u64 0, .int .u64 0, .int .u64 0, .int .u64 0] 34) _ rfl (fun _ _ => by simp [go_sem])
  · intro W hW
    have rx0 := fun ds os => cell_regrown ((Arr.to' Ax hW).c 0 (by omega)) ds os
    have rx1 := fun ds os => cell_regrown ((Arr.to' Ax hW).c 1 (by omega)) ds os
    have rx2 := fun ds os => cell_regrown ((Arr.to' Ax hW).c 2 (by omega)) ds os
    have rx3 := fun ds os => cell_regrown ((Arr.to' Ax hW).c 3 (by omega)) ds os
    simp only [List.take_succ_cons, List.take_zero]
    repeat (go_big_quiet_step (first | (go_at_call 17; with_reducible exact Calls.regrown_of (rmul _ _ (by first | exact inn_fm _ _ | exact inn_fa _ _ | exact inn_fs _ _ | assumption) (by first | exact inn_fm _ _ | exact inn_fa _ _ | exact inn_fs _ _ | assumption) _)) | (go_at_call 18; with_reducible exact Calls.regrown_of (raddc _ iX _)) | (go_at_call 18; with_reducible exact Calls.regrown_of (radd1 _ (inn_fm _ _) _))))
    exact wpQuiet_nil rfl
  intro u2 w12 hb1 hb2
  simp only [List.drop_succ_cons, List.drop_zero, Act.put, List.setIfInBounds_toArray, List.set_cons_succ, List.set_cons_zero]
  have Ex := Arr.to' Ax hb1
  have lx_u2 := Ex.lt
  have Bx := Arr.to' (Arr.al' Ex (.cells #[.int .u64 0, .int .u64 0, .int .u64 0, .int .u64 0] 34)) hb2
  have By := (Arr.mk4 (w := (u2.alloc (.cells #[.int .u64 0, .int .u64 0, .int .u64 0, .int .u64 0] 34))) (f := fun _ => .int .u64 0) (b := u2.heap.size) (by simp [go_sem]) (by simp [go_sem]) (by simp [go_sem]) (by simp [go_sem]) (by simp [go_sem]) (by simp [go_sem]) (by simp [go_sem]) (by simp [go_sem])).below hb2 (by go_size)
  have lB_u2 := (Bel.call hB hb1).size
  have hB' := Bel.call (Bel.al (Bel.call hB hb1) (.cells #[.int .u64 0, .int .u64 0, .int .u64 0, .int .u64 0] 34)) hb2
  clear hb1 hb2 Ex Ax hB
  have Ax := Bx
  have Ay := By
  have hB := hB'
  clear Bx By hB'
  have cy := Ay.c
  have zy := Ay.z
  have Bx := Arr.st4o (b' := u2.heap.size) Ax (by have := Ax.lt; have := Ay.lt; omega) (fm X (fa (fm X (fa X 486662)) 1))
  have By := Arr.st4 Ay (fm X (fa (fm X (fa X 486662)) 1))
  have hB' := Bel.st4 hB (b := u2.heap.size) (by have := hB.size; omega) (fm X (fa (fm X (fa X 486662)) 1))
  clear Ax Ay hB
  have Ax := Bx
  have Ay := By
  have hB := hB'
  clear Bx By hB'
  go_wp2_with fail
  refine (p79 _).mono ?_
  rintro e w13 ⟨rfl, hb⟩
  have By := Arr.to' Ay hb
  have hB' := Bel.call hB hb
  clear hb cy zy Ax Ay hB
  have Ay := By
  have hB := hB'
  clear By hB'
  go_wp2_with fail
  refine (CS _).mono ?_
  rintro e w20 ⟨rfl, hb⟩
  have By := Arr.to' Ay hb
  have hB' := Bel.call hB hb
  clear hb Ay hB CS
  have Ay := By
  have hB := hB'
  clear By hB'
  have hS := hB.size
  have lY := Ay.lt
  go_wp2_with fail
  go_loopw [8] (fun i wr => ∃ k : Nat, k ≤ 4 ∧ i = .int .i64 k ∧ Below w.heap.size w wr ∧ w20.heap.size < wr.heap.size ∧ Arr wr u2.heap.size 4 (fun j => .int .u64 (lim (fm X (fa (fm X (fa X 486662)) 1)) j)) ∧ Arr wr w20.heap.size 4 (hv (pp - 1) k)) (fun i _ => 4 - (intOf i).toNat)
  case atStart => exact ⟨0, by omega, rfl, Bel.al hB _, by go_size, Arr.al' Ay _, Arr.mk4 (by simp [go_sem, hv]) (by simp [go_sem, hv]) (by simp [go_sem, hv]) (by simp [go_sem, hv]) (by simp [go_sem]) (by simp [go_sem]) (by simp [go_sem]) (by simp [go_sem])⟩
  case round =>
    clear hB Ay
    obtain ⟨k, hk, rfl, hB, hs, AY, AR⟩ := hrel
    by_cases hlt : k < 4
    · have k0 : (0 : Int) ≤ (k : Int) := by omega
      have k4 : (k : Int) < 4 := by omega
      have rk : wr.cell? ⟨w20.heap.size, k, none⟩ = some (.int .u64 (lim (pp - 1) k)) := by rw [AR.c k hlt, hv, if_neg (by omega)]
      have zk := AR.z k hlt
      by_cases h3 : k < 3
      · have k3 : (k : Int) < 3 := by omega
        have hw1 : IntKind.i64.wrap ((k : Int) + 1) = (k : Int) + 1 := by rw [IntKind.wrap_i64]; omega
        have tn : ((k : Int) + 1).toNat = k + 1 := by omega
        have rn : ∀ v, (wr.setCell ⟨w20.heap.size, k, none⟩ v).cell? ⟨w20.heap.size, k + 1, none⟩ = some (.int .u64 (lim (pp - 1) (k + 1))) := fun v => by
          rw [(AR.set k hlt v).c (k + 1) (by omega), if_neg (by omega), hv, if_neg (by omega)]
        have lh := lim_half (pp - 1) k
        have J' : bits .or .u64 (lim (pp - 1) k / 2) (IntKind.u64.wrap (bits .and .u64 (lim (pp - 1) (k + 1)) 1 * 9223372036854775808)) = lim ((pp - 1) / 2) k := by
          rw [lh, b_and1 _ (lim_nn _ _) (lim_lt _ _)]
          have J := or_join (lim (pp - 1) k) (lim (pp - 1) (k + 1) % 2) 1 (by omega) (lim_nn _ _) (lim_lt _ _) (by omega)
          simpa using J
        have HAY : Hid (∀ v v' : Value, Arr ((wr.setCell ⟨w20.heap.size, k, none⟩ v).setCell ⟨w20.heap.size, k, none⟩ v') u2.heap.size 4 (fun j => .int .u64 (lim (fm X (fa (fm X (fa X 486662)) 1)) j))) := fun v v' => (AY.other (by omega) v).other (by omega) v'
        have HAR : Hid (∀ v : Value, Arr ((wr.setCell ⟨w20.heap.size, k, none⟩ v).setCell ⟨w20.heap.size, k, none⟩ (.int .u64 (lim ((pp - 1) / 2) k))) w20.heap.size 4 (hv (pp - 1) (k + 1))) := fun v =>
          ((AR.set k hlt v).set k hlt (.int .u64 (lim ((pp - 1) / 2) k))).congr (by
            intro j hj
            by_cases e : j = k
            · rw [if_pos e, hv, if_pos (by omega), e]
            · rw [if_neg e, if_neg e]; unfold hv
              by_cases e2 : j < k
              · rw [if_pos e2, if_pos (by omega)]
              · rw [if_neg e2, if_neg (by omega)])
        clear AR AY lh
        go_wp2_with fail
        go_region
        all_goals
          go_wp2_with fail
          go_roundw
          case rel => exact ⟨k + 1, by omega, by go_num, ((hB.setCell (by show w.heap.size ≤ w20.heap.size; omega) _).setCell (by show w.heap.size ≤ w20.heap.size; omega) _).drew, by simpa [size_set] using hs, HAY.out _ _, HAR.out _⟩
          case measure => simp [intOf]; omega
      · have k3 : k = 3 := by omega
        subst k3
        have lh := lim_half (pp - 1) 3
        have l4 : lim (pp - 1) 4 = 0 := by decide
        have J' : lim (pp - 1) 3 / 2 = lim ((pp - 1) / 2) 3 := by rw [lh, l4]; omega
        have HAY : Hid (∀ v : Value, Arr (wr.setCell ⟨w20.heap.size, 3, none⟩ v) u2.heap.size 4 (fun j => .int .u64 (lim (fm X (fa (fm X (fa X 486662)) 1)) j))) := fun v => AY.other (by omega) v
        have HAR : Hid (Arr (wr.setCell ⟨w20.heap.size, 3, none⟩ (.int .u64 (lim ((pp - 1) / 2) 3))) w20.heap.size 4 (hv (pp - 1) 4)) :=
          (AR.set 3 hlt (.int .u64 (lim ((pp - 1) / 2) 3))).congr (by
            intro j hj
            by_cases e : j = 3
            · rw [if_pos e, hv, if_pos (by omega), e]
            · rw [if_neg e]; unfold hv
              rw [if_pos (by omega), if_pos (by omega)])
        clear AR AY lh l4
        go_wp2_with fail
        go_roundw
        case rel => exact ⟨4, by omega, by go_num, hB.setCell (by show w.heap.size ≤ w20.heap.size; omega) _, by simpa [size_set] using hs, HAY.out _, HAR.out⟩
        case measure => simp [intOf]
    · have k4 : k = 4 := by omega
      subst k4
      have Ay := AY
      have Ah : Arr wr w20.heap.size 4 (fun j => .int .u64 (lim ((pp - 1) / 2) j)) := AR.congr (by intro j hj; rw [hv, if_pos hj])
      clear AR AY
      go_wp2_with fail
      apply wp_region_alloc_tail 4 (by kernel_rfl) (by kernel_rfl) (by kernel_rfl) (.cells #[.int .u64 0, .int .u64 0, .int .u64 0, .int .u64 0] 34) _ rfl (fun _ _ => by simp [go_sem])
      · intro W hW
        have ry0 := fun ds os => cell_regrown ((Arr.to' Ay hW).c 0 (by omega)) ds os
        have ry1 := fun ds os => cell_regrown ((Arr.to' Ay hW).c 1 (by omega)) ds os
        have ry2 := fun ds os => cell_regrown ((Arr.to' Ay hW).c 2 (by omega)) ds os
        have ry3 := fun ds os => cell_regrown ((Arr.to' Ay hW).c 3 (by omega)) ds os
        have rh0 := fun ds os => cell_regrown ((Arr.to' Ah hW).c 0 (by omega)) ds os
        have rh1 := fun ds os => cell_regrown ((Arr.to' Ah hW).c 1 (by omega)) ds os
        have rh2 := fun ds os => cell_regrown ((Arr.to' Ah hW).c 2 (by omega)) ds os
        have rh3 := fun ds os => cell_regrown ((Arr.to' Ah hW).c 3 (by omega)) ds os
        simp only [List.take_succ_cons, List.take_zero]
        repeat (go_big_quiet_step (first | (go_at_call 20; with_reducible exact Calls.regrown_of (p79 _)) | (go_at_call 21; with_reducible exact Calls.regrown_of (CP _))))
        exact wpQuiet_nil rfl
      intro u4 w14 hb1 hb2
      simp only [List.drop_succ_cons, List.drop_zero, Act.put, List.setIfInBounds_toArray, List.set_cons_succ, List.set_cons_zero]
      have Ey := Arr.to' Ay hb1
      have ly_u4 := Ey.lt
      have By := Arr.to' (Arr.al' Ey (.cells #[.int .u64 0, .int .u64 0, .int .u64 0, .int .u64 0] 34)) hb2
      have Bs := (Arr.mk4 (w := (u4.alloc (.cells #[.int .u64 0, .int .u64 0, .int .u64 0, .int .u64 0] 34))) (f := fun _ => .int .u64 0) (b := u4.heap.size) (by simp [go_sem]) (by simp [go_sem]) (by simp [go_sem]) (by simp [go_sem]) (by simp [go_sem]) (by simp [go_sem]) (by simp [go_sem]) (by simp [go_sem])).below hb2 (by go_size)
      have lB_u4 := (Bel.call hB hb1).size
      have hB' := Bel.call (Bel.al (Bel.call hB hb1) (.cells #[.int .u64 0, .int .u64 0, .int .u64 0, .int .u64 0] 34)) hb2
      clear hb1 hb2 Ey Ay Ah hB CP
      have Ay := By
      have As := Bs
      have hB := hB'
      clear By Bs hB'
      have cs := As.c
      have zs := As.z
      have By := Arr.st4o (b' := u4.heap.size) Ay (by have := Ay.lt; have := As.lt; omega) (Y)
      have Bs := Arr.st4 As (Y)
      have hB' := Bel.st4 hB (b := u4.heap.size) (by have := hB.size; omega) (Y)
      clear Ay As hB
      have Ay := By
      have As := Bs
      have hB := hB'
      clear By Bs hB'
      have cy := Ay.c
      go_wp2_with fail
      go_ret
      exact ⟨rfl, hB⟩
end
section
attribute [local go_sem] eq24
set_option maxHeartbeats 8000000 in
theorem ron_1 (u : ByteArray) (X Y bo : Int) (iX : Inn X) (hz : (lim (fm X (fa (fm X (fa X 486662)) 1)) 0 == 0 && (lim (fm X (fa (fm X (fa X 486662)) 1)) 1 == 0 && (lim (fm X (fa (fm X (fa X 486662)) 1)) 2 == 0 && lim (fm X (fa (fm X (fa X 486662)) 1)) 3 == 0))) = false) (w : World)
    (CC : ∀ W, Calls Tryz.prog 16 #[.string u] W fun e w' => e = .returned (.tuple #[nv X, .int .i64 0]) ∧ Below W.heap.size W w')
    (CS : ∀ W, Calls Tryz.prog 19 #[nv pp, .agg #[.int .u64 1, .int .u64 0, .int .u64 0, .int .u64 0]] W fun e w' => e = .returned (.tuple #[nv (pp - 1), .int .u64 bo]) ∧ Below W.heap.size W w')
    (CP : ∀ W, Calls Tryz.prog 21 #[nv (fm X (fa (fm X (fa X 486662)) 1)), nv ((pp - 1) / 2), nv pp] W fun e w' => e = .returned (nv Y) ∧ Below W.heap.size W w') :
    Calls Tryz.prog 7 #[.string u] w fun e w' => e = .returned (.bool (lim Y 0 == 1 && (lim Y 1 == 0 && (lim Y 2 == 0 && lim Y 3 == 0)))) ∧ Below w.heap.size w w' := by
  go_enter Tryz.func7, Tryz.ntmps7
  go_wp2_with fail
  refine (CC _).mono ?_
  rintro e w1 ⟨rfl, hb⟩
  have hB := hb
  clear hb CC
  have lB_1 := hB.size
  have Bx := Arr.mk4 (w := (w1.alloc (.cells #[.int .u64 (lim (X) 0), .int .u64 (lim (X) 1), .int .u64 (lim (X) 2), .int .u64 (lim (X) 3)] 34))) (f := fun j => .int .u64 (lim (X) j)) (b := w1.heap.size) (by simp [go_sem]) (by simp [go_sem]) (by simp [go_sem]) (by simp [go_sem]) (by simp [go_sem]) (by simp [go_sem]) (by simp [go_sem]) (by simp [go_sem])
  have hB' := (Bel.al hB (.cells #[.int .u64 (lim (X) 0), .int .u64 (lim (X) 1), .int .u64 (lim (X) 2), .int .u64 (lim (X) 3)] 34))
  clear hB
  have Ax := Bx
  have hB := hB'
  clear Bx hB'
  go_wp2_with fail
  apply wp_region_alloc_tail 9 (by kernel_rfl) (by kernel_rfl) (by kernel_rfl) (.cells #[.int .u64 0, .int .u64 0, .int .u64 0, .int .u64 0] 34) _ rfl (fun _ _ => by simp [go_sem])
  · intro W hW
    have rx0 := fun ds os => cell_regrown ((Arr.to' Ax hW).c 0 (by omega)) ds os
    have rx1 := fun ds os => cell_regrown ((Arr.to' Ax hW).c 1 (by omega)) ds os
    have rx2 := fun ds os => cell_regrown ((Arr.to' Ax hW).c 2 (by omega)) ds os
    have rx3 := fun ds os => cell_regrown ((Arr.to' Ax hW).c 3 (by omega)) ds os
    simp only [List.take_succ_cons, List.take_zero]
    repeat (go_big_quiet_step (first | (go_at_call 17; with_reducible exact Calls.regrown_of (rmul _ _ (by first | exact inn_fm _ _ | exact inn_fa _ _ | exact inn_fs _ _ | assumption) (by first | exact inn_fm _ _ | exact inn_fa _ _ | exact inn_fs _ _ | assumption) _)) | (go_at_call 18; with_reducible exact Calls.regrown_of (raddc _ iX _)) | (go_at_call 18; with_reducible exact Calls.regrown_of (radd1 _ (inn_fm _ _) _))))
    exact wpQuiet_nil rfl
  intro u2 w12 hb1 hb2
  simp only [List.drop_succ_cons, List.drop_zero, Act.put, List.setIfInBounds_toArray, List.set_cons_succ, List.set_cons_zero]
  have Ex := Arr.to' Ax hb1
  have lx_u2 := Ex.lt
  have Bx := Arr.to' (Arr.al' Ex (.cells #[.int .u64 0, .int .u64 0, .int .u64 0, .int .u64 0] 34)) hb2
  have By := (Arr.mk4 (w := (u2.alloc (.cells #[.int .u64 0, .int .u64 0, .int .u64 0, .int .u64 0] 34))) (f := fun _ => .int .u64 0) (b := u2.heap.size) (by simp [go_sem]) (by simp [go_sem]) (by simp [go_sem]) (by simp [go_sem]) (by simp [go_sem]) (by simp [go_sem]) (by simp [go_sem]) (by simp [go_sem])).below hb2 (by go_size)
  have lB_u2 := (Bel.call hB hb1).size
  have hB' := Bel.call (Bel.al (Bel.call hB hb1) (.cells #[.int .u64 0, .int .u64 0, .int .u64 0, .int .u64 0] 34)) hb2
  clear hb1 hb2 Ex Ax hB
  have Ax := Bx
  have Ay := By
  have hB := hB'
  clear Bx By hB'
  have cy := Ay.c
  have zy := Ay.z
  have Bx := Arr.st4o (b' := u2.heap.size) Ax (by have := Ax.lt; have := Ay.lt; omega) (fm X (fa (fm X (fa X 486662)) 1))
  have By := Arr.st4 Ay (fm X (fa (fm X (fa X 486662)) 1))
  have hB' := Bel.st4 hB (b := u2.heap.size) (by have := hB.size; omega) (fm X (fa (fm X (fa X 486662)) 1))
  clear Ax Ay hB
  have Ax := Bx
  have Ay := By
  have hB := hB'
  clear Bx By hB'
  go_wp2_with fail
  refine (p79 _).mono ?_
  rintro e w13 ⟨rfl, hb⟩
  have By := Arr.to' Ay hb
  have hB' := Bel.call hB hb
  clear hb cy zy Ax Ay hB
  have Ay := By
  have hB := hB'
  clear By hB'
  go_wp2_with fail
  refine (CS _).mono ?_
  rintro e w20 ⟨rfl, hb⟩
  have By := Arr.to' Ay hb
  have hB' := Bel.call hB hb
  clear hb Ay hB CS
  have Ay := By
  have hB := hB'
  clear By hB'
  have hS := hB.size
  have lY := Ay.lt
  go_wp2_with fail
  go_loopw [8] (fun i wr => ∃ k : Nat, k ≤ 4 ∧ i = .int .i64 k ∧ Below w.heap.size w wr ∧ w20.heap.size < wr.heap.size ∧ Arr wr u2.heap.size 4 (fun j => .int .u64 (lim (fm X (fa (fm X (fa X 486662)) 1)) j)) ∧ Arr wr w20.heap.size 4 (hv (pp - 1) k)) (fun i _ => 4 - (intOf i).toNat)
  case atStart => exact ⟨0, by omega, rfl, Bel.al hB _, by go_size, Arr.al' Ay _, Arr.mk4 (by simp [go_sem, hv]) (by simp [go_sem, hv]) (by simp [go_sem, hv]) (by simp [go_sem, hv]) (by simp [go_sem]) (by simp [go_sem]) (by simp [go_sem]) (by simp [go_sem])⟩
  case round =>
    clear hB Ay
    obtain ⟨k, hk, rfl, hB, hs, AY, AR⟩ := hrel
    by_cases hlt : k < 4
    · have k0 : (0 : Int) ≤ (k : Int) := by omega
      have k4 : (k : Int) < 4 := by omega
      have rk : wr.cell? ⟨w20.heap.size, k, none⟩ = some (.int .u64 (lim (pp - 1) k)) := by rw [AR.c k hlt, hv, if_neg (by omega)]
      have zk := AR.z k hlt
      by_cases h3 : k < 3
      · have k3 : (k : Int) < 3 := by omega
        have hw1 : IntKind.i64.wrap ((k : Int) + 1) = (k : Int) + 1 := by rw [IntKind.wrap_i64]; omega
        have tn : ((k : Int) + 1).toNat = k + 1 := by omega
        have rn : ∀ v, (wr.setCell ⟨w20.heap.size, k, none⟩ v).cell? ⟨w20.heap.size, k + 1, none⟩ = some (.int .u64 (lim (pp - 1) (k + 1))) := fun v => by
          rw [(AR.set k hlt v).c (k + 1) (by omega), if_neg (by omega), hv, if_neg (by omega)]
        have lh := lim_half (pp - 1) k
        have J' : bits .or .u64 (lim (pp - 1) k / 2) (IntKind.u64.wrap (bits .and .u64 (lim (pp - 1) (k + 1)) 1 * 9223372036854775808)) = lim ((pp - 1) / 2) k := by
          rw [lh, b_and1 _ (lim_nn _ _) (lim_lt _ _)]
          have J := or_join (lim (pp - 1) k) (lim (pp - 1) (k + 1) % 2) 1 (by omega) (lim_nn _ _) (lim_lt _ _) (by omega)
          simpa using J
        have HAY : Hid (∀ v v' : Value, Arr ((wr.setCell ⟨w20.heap.size, k, none⟩ v).setCell ⟨w20.heap.size, k, none⟩ v') u2.heap.size 4 (fun j => .int .u64 (lim (fm X (fa (fm X (fa X 486662)) 1)) j))) := fun v v' => (AY.other (by omega) v).other (by omega) v'
        have HAR : Hid (∀ v : Value, Arr ((wr.setCell ⟨w20.heap.size, k, none⟩ v).setCell ⟨w20.heap.size, k, none⟩ (.int .u64 (lim ((pp - 1) / 2) k))) w20.heap.size 4 (hv (pp - 1) (k + 1))) := fun v =>
          ((AR.set k hlt v).set k hlt (.int .u64 (lim ((pp - 1) / 2) k))).congr (by
            intro j hj
            by_cases e : j = k
            · rw [if_pos e, hv, if_pos (by omega), e]
            · rw [if_neg e, if_neg e]; unfold hv
              by_cases e2 : j < k
              · rw [if_pos e2, if_pos (by omega)]
              · rw [if_neg e2, if_neg (by omega)])
        clear AR AY lh
        go_wp2_with fail
        go_region
        all_goals
          go_wp2_with fail
          go_roundw
          case rel => exact ⟨k + 1, by omega, by go_num, ((hB.setCell (by show w.heap.size ≤ w20.heap.size; omega) _).setCell (by show w.heap.size ≤ w20.heap.size; omega) _).drew, by simpa [size_set] using hs, HAY.out _ _, HAR.out _⟩
          case measure => simp [intOf]; omega
      · have k3 : k = 3 := by omega
        subst k3
        have lh := lim_half (pp - 1) 3
        have l4 : lim (pp - 1) 4 = 0 := by decide
        have J' : lim (pp - 1) 3 / 2 = lim ((pp - 1) / 2) 3 := by rw [lh, l4]; omega
        have HAY : Hid (∀ v : Value, Arr (wr.setCell ⟨w20.heap.size, 3, none⟩ v) u2.heap.size 4 (fun j => .int .u64 (lim (fm X (fa (fm X (fa X 486662)) 1)) j))) := fun v => AY.other (by omega) v
        have HAR : Hid (Arr (wr.setCell ⟨w20.heap.size, 3, none⟩ (.int .u64 (lim ((pp - 1) / 2) 3))) w20.heap.size 4 (hv (pp - 1) 4)) :=
          (AR.set 3 hlt (.int .u64 (lim ((pp - 1) / 2) 3))).congr (by
            intro j hj
            by_cases e : j = 3
            · rw [if_pos e, hv, if_pos (by omega), e]
            · rw [if_neg e]; unfold hv
              rw [if_pos (by omega), if_pos (by omega)])
        clear AR AY lh l4
        go_wp2_with fail
        go_roundw
        case rel => exact ⟨4, by omega, by go_num, hB.setCell (by show w.heap.size ≤ w20.heap.size; omega) _, by simpa [size_set] using hs, HAY.out _, HAR.out⟩
        case measure => simp [intOf]
    · have k4 : k = 4 := by omega
      subst k4
      have Ay := AY
      have Ah : Arr wr w20.heap.size 4 (fun j => .int .u64 (lim ((pp - 1) / 2) j)) := AR.congr (by intro j hj; rw [hv, if_pos hj])
      clear AR AY
      go_wp2_with fail
      apply wp_region_alloc_tail 4 (by kernel_rfl) (by kernel_rfl) (by kernel_rfl) (.cells #[.int .u64 0, .int .u64 0, .int .u64 0, .int .u64 0] 34) _ rfl (fun _ _ => by simp [go_sem])
      · intro W hW
        have ry0 := fun ds os => cell_regrown ((Arr.to' Ay hW).c 0 (by omega)) ds os
        have ry1 := fun ds os => cell_regrown ((Arr.to' Ay hW).c 1 (by omega)) ds os
        have ry2 := fun ds os => cell_regrown ((Arr.to' Ay hW).c 2 (by omega)) ds os
        have ry3 := fun ds os => cell_regrown ((Arr.to' Ay hW).c 3 (by omega)) ds os
        have rh0 := fun ds os => cell_regrown ((Arr.to' Ah hW).c 0 (by omega)) ds os
        have rh1 := fun ds os => cell_regrown ((Arr.to' Ah hW).c 1 (by omega)) ds os
        have rh2 := fun ds os => cell_regrown ((Arr.to' Ah hW).c 2 (by omega)) ds os
        have rh3 := fun ds os => cell_regrown ((Arr.to' Ah hW).c 3 (by omega)) ds os
        simp only [List.take_succ_cons, List.take_zero]
        repeat (go_big_quiet_step (first | (go_at_call 20; with_reducible exact Calls.regrown_of (p79 _)) | (go_at_call 21; with_reducible exact Calls.regrown_of (CP _))))
        exact wpQuiet_nil rfl
      intro u4 w14 hb1 hb2
      simp only [List.drop_succ_cons, List.drop_zero, Act.put, List.setIfInBounds_toArray, List.set_cons_succ, List.set_cons_zero]
      have Ey := Arr.to' Ay hb1
      have ly_u4 := Ey.lt
      have By := Arr.to' (Arr.al' Ey (.cells #[.int .u64 0, .int .u64 0, .int .u64 0, .int .u64 0] 34)) hb2
      have Bs := (Arr.mk4 (w := (u4.alloc (.cells #[.int .u64 0, .int .u64 0, .int .u64 0, .int .u64 0] 34))) (f := fun _ => .int .u64 0) (b := u4.heap.size) (by simp [go_sem]) (by simp [go_sem]) (by simp [go_sem]) (by simp [go_sem]) (by simp [go_sem]) (by simp [go_sem]) (by simp [go_sem]) (by simp [go_sem])).below hb2 (by go_size)
      have lB_u4 := (Bel.call hB hb1).size
      have hB' := Bel.call (Bel.al (Bel.call hB hb1) (.cells #[.int .u64 0, .int .u64 0, .int .u64 0, .int .u64 0] 34)) hb2
      clear hb1 hb2 Ey Ay Ah hB CP
      have Ay := By
      have As := Bs
      have hB := hB'
      clear By Bs hB'
      have cs := As.c
      have zs := As.z
      have By := Arr.st4o (b' := u4.heap.size) Ay (by have := Ay.lt; have := As.lt; omega) (Y)
      have Bs := Arr.st4 As (Y)
      have hB' := Bel.st4 hB (b := u4.heap.size) (by have := hB.size; omega) (Y)
      clear Ay As hB
      have Ay := By
      have As := Bs
      have hB := hB'
      clear By Bs hB'
      have cy := Ay.c
      go_wp2_with fail
      go_ret
      exact ⟨rfl, hB⟩
end
theorem ron_u (u : ByteArray) (hu : u.size ≤ maxLen) (w : World) : Calls Tryz.prog 7 #[.string u] w fun e w' => e = .returned (.bool (onB u)) ∧ Below w.heap.size w w' := by
  have cu := fun W => rcoord_u u hu W
  unfold onB
  by_cases g : u.size = 32
  · rw [if_pos g, lenE_yes (by omega)] at cu
    rw [if_pos g]
    have cs : ∀ W, Calls Tryz.prog 19 #[nv pp, .agg #[.int .u64 1, .int .u64 0, .int .u64 0, .int .u64 0]] W fun e w' => e = .returned (.tuple #[nv (pp - 1), .int .u64 (bw pp 1 4)]) ∧ Below W.heap.size W w' := fun W => by
      have := refSub_raw pp 1 W
      rw [nv_low 1 (by decide) (by decide)] at this
      exact this
    have iH : Inn (hh (c5 (flN u) % pp)) := inn_fm _ _
    have cp : ∀ W, Calls Tryz.prog 21 #[nv (hh (c5 (flN u) % pp)), nv ((pp - 1) / 2), nv pp] W fun e w' => e = .returned (nv (hh (c5 (flN u) % pp) ^ (pp / 2).toNat % pp)) ∧ Below W.heap.size W w' := fun W => by
      have := refPow_any (hh (c5 (flN u) % pp)) (pp / 2) pp iH.1 iH.2 inn_half.1 inn_half.2 inn_pp.1 inn_pp.2 W
      rw [md_pos _ pp_pos] at this
      have e : (pp - 1) / 2 = pp / 2 := by decide
      rw [e]
      exact this
    unfold sqB
    cases hz : z4 (hh (c5 (flN u) % pp))
    · rw [Bool.false_or]
      exact ron_1 u _ _ _ (inn_mod _) hz w cu cs cp
    · rw [Bool.true_or]
      exact ron_0 u _ _ _ (inn_mod _) hz w cu cs cp
  · rw [if_neg g]
    exact ron_no u _ _ (lenE_nz g) w cu
end Go.Proofs.YtpigofooblmdhaaGreat
set_option linter.all false
set_option maxRecDepth 100000
namespace Go.Proofs.YtpigofooblmdhaaGreat
open Go.ChangeShapes Go.WideShapes Go.ChangeAt Go.RowKit
open Go.ChangeMaps (open_string shut_string)
set_option maxHeartbeats 4000000 in
theorem curve_core (k u S : ByteArray) (E : Int) (b : Bool) (w : World)
    (C4 : ∀ W, Calls Tryz.prog 4 #[.string k] W fun e w' => e = .returned (.tuple #[.string S, .int .i64 E]) ∧ Below W.heap.size W w')
    (C5 : ∀ W, Calls Tryz.prog 5 #[.string k] W fun e w' => e = .returned (.tuple #[.string S, .int .i64 E]) ∧ Below W.heap.size W w')
    (C6 : ∀ W, Calls Tryz.prog 6 #[.string u] W fun e w' => e = .returned (.bool b) ∧ Below W.heap.size W w')
    (C7 : ∀ W, Calls Tryz.prog 7 #[.string u] W fun e w' => e = .returned (.bool b) ∧ Below W.heap.size W w')
    (C8 : ∀ W, Calls Tryz.prog 8 #[] W fun e w' => e = .returned (.bool true) ∧ Below W.heap.size W w') :
    Calls Tryz.prog 3 #[.string k, .string u] w fun e w' => e = .returned (.bool true) ∧ Below w.heap.size w w' := by
  go_enter Tryz.func3, Tryz.ntmps3
  go_wp2_with fail
  refine (C4 _).mono ?_
  rintro e w1 ⟨rfl, hb⟩
  have hB := hb
  clear hb
  go_wp2_with fail
  refine (C5 _).mono ?_
  rintro e w2 ⟨rfl, hb⟩
  have hB' := Bel.call hB hb
  clear hb hB
  have hB := hB'
  clear hB'
  go_wp2_with fail
  refine (C6 _).mono ?_
  rintro e w3 ⟨rfl, hb⟩
  have hB' := Bel.call hB hb
  clear hb hB
  have hB := hB'
  clear hB'
  go_wp2_with fail
  refine (C7 _).mono ?_
  rintro e w4 ⟨rfl, hb⟩
  have hB' := Bel.call hB hb
  clear hb hB
  have hB := hB'
  clear hB'
  go_wp2_with fail
  refine (C8 _).mono ?_
  rintro e w5 ⟨rfl, hb⟩
  have hB' := Bel.call hB hb
  clear hb hB
  have hB := hB'
  clear hB'
  go_wp2_with fail
  go_returns
  exact ⟨rfl, hB⟩
theorem curve_any (k u : ByteArray) (hk : k.size ≤ maxLen) (hu : u.size ≤ maxLen) (w : World) :
    Calls Tryz.prog 3 #[.string k, .string u] w fun e w' => e = .returned (.bool true) ∧ Below w.heap.size w w' :=
  curve_core k u _ _ _ w (pub_u k hk) (rpub_u k hk) (on_u u hu) (ron_u u hu) awake3
set_option maxRecDepth 100000 in
theorem lifted3 (os : Os) (started : os.Started) (H : Type) (enc : TypeId × Value → H) :
    ReturnsInHanded {} Tryz.checked os 3 .any (Rows.xdhCurveSpec.pre6 enc Tryz.prog Tryz.f3 Rows.xdhCurveRow.domain false) (Rows.xdhCurveSpec.post enc Tryz.prog Tryz.f3 false true false false) := by
  refine returnsInHanded_of_change (C := Tryz.checked) own started (by kernel_rfl) Tryz.func3
    (ChangeSpec.witness6 (enc := enc) (C := Tryz.checked) false ⟨#[], #[.string ⟨#[]⟩, .string ⟨#[]⟩], []⟩ 8 (by kernel_rfl) (by kernel_rfl) (by kernel_rfl) (by kernel_rfl)) ?_
  intro W base args ds gs before hval0 hW hcnd _
  have hval : ∀ (j : Nat) t v, Tryz.f3.params[j]? = some t → args[j]? = some v → Value.okWide Tryz.prog W .any base t v := hval0
  have hW' := hW
  obtain ⟨p, q, hA0, hV, rfl, hfz, hnd⟩ := hW
  have hA : DataW.TrodAll enc Tryz.prog W 0 (fun _ => true) true Tryz.f3.params.toList args.toList ds p := hA0
  rw [Tryz.params3] at hA hval
  obtain ⟨v0, vs0, d0, ds0, p0, q0, hargs, rfl, rfl, h0, r0⟩ := trodAll_cons hA
  obtain ⟨v1, vs1, d1, ds1, p1, q1, rfl, rfl, rfl, h1, r1⟩ := trodAll_cons r0
  obtain ⟨rfl, rfl, rfl⟩ := trodAll_nil r1
  obtain rfl : args = #[v0, v1] := by cases args; simp_all
  obtain ⟨rfl, rfl⟩ := trodVars_none hV
  have k0 := h0
  have k1 := h1
  have lt0 : ∀ x ∈ p0, x.block < W.heap.size := by obtain ⟨m, hm⟩ := k0; exact DataW.trod_lt m _ _ _ hm
  have lt1 : ∀ x ∈ p1, x.block < W.heap.size := by obtain ⟨m, hm⟩ := k1; exact DataW.trod_lt m _ _ _ hm
  obtain ⟨S0, rfl, rfl, rfl, hs0⟩ := open_string Tryz.underlying9 (hval 0 9 v0 rfl rfl) h0
  obtain ⟨S1, rfl, rfl, rfl, hs1⟩ := open_string Tryz.underlying9 (hval 1 9 v1 rfl rfl) h1
  clear hA0 hval0
  refine (curve_any S0 S1 hs0 hs1 W).mono fun e W' ⟨he, bel⟩ => ?_
  subst he
  exact ⟨_, rfl, _, _, _, [], _, [], hW', trodAll_mk1 (shut_bool Tryz.underlying4 _), (trodAll_cons_mk (Below.trod laidOut (by kernel_rfl) (of_decide_eq_true (by kernel_rfl)) k0 bel lt0) (trodAll_cons_mk (Below.trod laidOut (by kernel_rfl) (of_decide_eq_true (by kernel_rfl)) k1 bel lt1) trodAll_mk0)), rfl, bel.frame _, fun h => by cases h⟩
theorem xdhCurve_holds : Rows.XdhCurveSaid :=
  OpenClaim.holds_of_wide 3 Tryz.f3 rfl rfl rfl rfl rfl rfl rfl ⟨rfl, rfl, rfl, rfl, rfl⟩ rfl rfl rfl rfl rfl (by kernel_rfl) Tryz.func3 (by kernel_rfl)
    (of_decide_eq_true (by kernel_rfl)) (by unfold Func.isWrapper; rw [if_neg (of_decide_eq_false (by kernel_rfl))]; exact ⟨rfl, rfl⟩)
    (fun os started H enc _ => lifted3 os started H enc)
#print axioms xdhCurve_holds
end Go.Proofs.YtpigofooblmdhaaGreat
