/- The reference's streams; tags of rows. -/
import Derived.Test.YtogkijjmimaccaaJ34
set_option linter.all false
set_option maxRecDepth 100000
namespace Go.Proofs.Ytogkijjmimaccaa
open Go.RowKit Go.Sort Lin
set_option maxHeartbeats 1000000 in
theorem rrefused10_any (key : ByteArray) (a0 : Option Addr) (n cap : Nat) (w : World) : Calls Try.prog 35 #[.string key, .slice a0 n cap] w fun e w' => e = .returned (.int .i64 (slE key n)) ∧ w' = w := by
  unfold slE
  by_cases h1 : key.size = 32
  · rw [if_pos (.inl h1)]
    have j1 : (key.size : Int) = 32 := by omega
    by_cases hn : 127 ≤ n
    · rw [if_pos hn]
      have j2 : (127 : Int) ≤ (n : Int) := by omega
      clear h1 hn
      go_enter Try.func35, Try.ntmps35
      go_wp2_with fail
      go_ret
      exact ⟨rfl, rfl⟩
    · rw [if_neg hn]
      have j2 : ¬ (127 : Int) ≤ (n : Int) := by omega
      clear h1 hn
      go_enter Try.func35, Try.ntmps35
      go_wp2_with fail
      go_ret
      exact ⟨rfl, rfl⟩
  · by_cases h2 : key.size = 64
    · rw [if_pos (.inr h2)]
      have j1 : (key.size : Int) = 64 := by omega
      by_cases hn : 127 ≤ n
      · rw [if_pos hn]
        have j2 : (127 : Int) ≤ (n : Int) := by omega
        clear h1 h2 hn
        go_enter Try.func35, Try.ntmps35
        go_wp2_with fail
        go_ret
        exact ⟨rfl, rfl⟩
      · rw [if_neg hn]
        have j2 : ¬ (127 : Int) ≤ (n : Int) := by omega
        clear h1 h2 hn
        go_enter Try.func35, Try.ntmps35
        go_wp2_with fail
        go_ret
        exact ⟨rfl, rfl⟩
    · rw [if_neg (fun e => e.elim h1 h2)]
      have j1 : ((key.size : Int) != 32) = true := by simp [bne]; omega
      have j2 : ((key.size : Int) != 64) = true := by simp [bne]; omega
      clear h1 h2
      go_enter Try.func35, Try.ntmps35
      go_wp2_with fail
      go_ret
      exact ⟨rfl, rfl⟩
set_option maxHeartbeats 1000000 in
theorem rstreamed_core (h v s first st T : ByteArray) (f : Nat → By) (x : Int) (hv : v.size = 16) (hf : bF v = f) (hF : tx (mk f) = first) (hs : s.size ≤ 65536) (w : World)
    (C46 : ∀ W, Calls Try.prog 46 #[.string h, .string first, .int .i64 (s.size : Int)] W fun e w' => e = .returned (.tuple #[.string st, .int .i64 x]) ∧ Below W.heap.size W w')
    (C28 : ∀ W, Calls Try.prog 28 #[.string s, .string st] W fun e w' => e = .returned (.string T) ∧ Below W.heap.size W w') :
    Calls Try.prog 37 #[.string h, .string v, .string s] w fun e w' => e = .returned (.string T) ∧ Below w.heap.size w w' := by
  have s1 : (s.size : Int) ≤ 65536 := by omega
  obtain ⟨cap, w2, hcv, A, hg, B2⟩ := conv_row w v
  rw [hv] at hcv A
  rw [hf] at A
  clear hv hf
  go_enter Try.func37, Try.ntmps37
  go_upto_region 2 with (fail)
  clear hcv
  have c8 := A.cv 8 (by omega) (.int .u8 ((f 8).val : Int)) rfl
  have z8 := A.z 8 (by omega)
  have X8 := and8 (f 8) 127
  rw [show (((127 : By).val : Nat) : Int) = 127 from rfl] at X8
  go_upto_region 3 with (fail)
  replace A := (A.set 8 (by omega) (.int .u8 ((an (f 8) 127).val : Int))).congr (mk_8 f)
  replace B2 := Bel.st B2 (b := w.heap.size) (k := 8) (by omega) (.int .u8 ((an (f 8) 127).val : Int))
  generalize w2.setCell ⟨w.heap.size, 8, none⟩ (.int .u8 ((an (f 8) 127).val : Int)) = W1 at *
  clear c8 z8 X8
  have c8 := A.cv 12 (by omega) (.int .u8 ((f 12).val : Int)) rfl
  have z8 := A.z 12 (by omega)
  have X8 := and8 (f 12) 127
  rw [show (((127 : By).val : Nat) : Int) = 127 from rfl] at X8
  go_upto_region 4 with (fail)
  replace A := (A.set 12 (by omega) (.int .u8 ((an (f 12) 127).val : Int))).congr (mk_12 f)
  replace B2 := Bel.st B2 (b := w.heap.size) (k := 12) (by omega) (.int .u8 ((an (f 12) 127).val : Int))
  generalize W1.setCell ⟨w.heap.size, 12, none⟩ (.int .u8 ((an (f 12) 127).val : Int)) = W3 at *
  clear c8 z8 X8
  have cv := conv_vtx W3 _ cap (mk f) A
  rw [hF] at cv
  clear A hF
  go_wp2_with fail
  refine (C46 _).mono ?_
  rintro e w5 ⟨rfl, hb5⟩
  replace hb5 := Bel.call B2 hb5
  clear B2
  clear cv C46
  go_wp2_with fail
  refine (C28 _).mono ?_
  rintro e w6 ⟨rfl, hb6⟩
  replace hb6 := Bel.call hb5 hb6
  clear hb5
  clear C28
  go_wp2_with fail
  go_ret
  exact ⟨rfl, hb6⟩
theorem rstr_any (h : ByteArray) (hk : Key h) (first : ByteArray) (hf : first.size = 16) (n : Nat) (hn : n ≤ 65536) (W : World) :
    Calls Try.prog 46 #[.string h, .string first, .int .i64 (n : Int)] W fun e w' => e = .returned (.tuple #[.string (smS h (bF first) n), .int .i64 0]) ∧ Below W.heap.size W w' := by
  have := rstream_any h first (n : Int) W
  have e : rfn h first (n : Int) = 0 := by
    unfold rfn
    rw [if_neg (by omega), rfs_16 h first hf]
    exact kE_0.2 hk
  rwa [e, if_pos rfl, Int.toNat_natCast] at this
theorem rstreamed_any (h : ByteArray) (hk : Key h) (v s : ByteArray) (hv : v.size = 16) (hs : s.size ≤ 65536) (w : World) :
    Calls Try.prog 37 #[.string h, .string v, .string s] w fun e w' => e = .returned (.string (crV h (bF v) s)) ∧ Below w.heap.size w w' :=
  rstreamed_core h v s (tx (mk (bF v))) (smS h (bF (tx (mk (bF v)))) s.size) _ (bF v) 0 hv rfl rfl hs w (fun W => rstr_any h hk _ (tx_size _) _ hs W) (fun W => rXor_any s _ (by rw [smS_size]; exact Nat.le_refl _) (by omega) W)
theorem Try.inf9 : (Try.prog.info? 9).map (fun i => (i.zero, i.size, i.bytes)) = some (some (.string ⟨#[]⟩), 1, 16) := by kernel_rfl
theorem own_txs {W : World} {b n : Nat} {v : Value} {l : List ByteArray} (h : W.ownsRow b 9 1 v n (l.map Value.string)) (hn : l.length = n) : Txs W v l := by
  have hc := fun g hg => World.ownsRow.cells h (g := g) hg
  rcases h.2 with ⟨h1, h2⟩ | ⟨g, cap, cur, h1, h2, h3, h4, _⟩
  · exact .inl ⟨h1, List.eq_nil_of_length_eq_zero (by omega)⟩
  · subst h1
    refine .inr ⟨⟨g, 0, none⟩, cap, by rw [hn], by omega, fun i s hi => hc g rfl i _ ?_⟩
    rw [List.getElem?_map, hi]
    rfl
def Stop9 (p : Prop) : Prop := p
set_option maxHeartbeats 1000000 in
theorem rtag_nil (key p T : ByteArray) (x : Int) (l : List ByteArray) (hl : l = []) (w : World)
    (C13 : ∀ W v, Txs W v (l ++ [p]) → Calls Try.prog 13 #[.string key, v] W fun e w' => e = .returned (.tuple #[.string T, .int .i64 x]) ∧ Below W.heap.size W w') :
    Calls Try.prog 36 #[.string key, .slice none 0 0, .string p] w fun e w' => e = .returned (.string T) ∧ Below w.heap.size w w' := by
  obtain ⟨i0, hi, hz0, hz1, hz2⟩ := info_parts Try.inf9
  have HL : Hid (l.length = 0) := by show _ = _; rw [hl]; rfl
  have hB : Below w.heap.size w w := Below.refl _ _
  have HO : Hid (w.ownsRow w.heap.size 9 1 (.slice none 0 0) 0 (l.map Value.string)) := by
    show World.ownsRow _ _ _ _ _ _ _
    rw [hl]
    exact World.ownsRow_nil _ _ _ _
  clear hl
  go_enter Try.func36, Try.ntmps36
  go_upto_region 3 with (fail)
  go_wp2_with (at_builtin; refine stopAt ?_)
  unfold Stop
  refine wpList_append_own _ rfl _ _ 22 rfl w.heap.size 9 i0 (.string ⟨#[]⟩) 1 16 Try.underlying22 hi hz0 hz1 hz2 rfl (by decide) _ 0 (l.map Value.string) rfl (World.ownsRow.alloc HO.out _) ⟨_, 0, none⟩ 1 1 [.string p] rfl rfl (news_new _ _ _) (by simp [Value.oneCell']) (by unfold maxLen; omega) (by omega) (by have := hB.size; first | (simp; done) | (simp; omega)) ?_
  intro v2 w4 hown' hgrow4 hnil4
  replace hB : Below w.heap.size w w4 := (Bel.al hB _).grown hgrow4 (by have := hB.size; first | (simp; done) | (simp; omega)) (fun q hq => (HO.out.lt q hq).1)
  have HX : Hid (Txs w4 v2 (l ++ [p])) := own_txs (b := w.heap.size) (n := 0 + 1) (by rw [List.map_append]; exact hown') (by simp [HL.out])
  clear hgrow4 hnil4 hown' HO
  go_wp2_with fail
  refine (C13 _ _ HX.out).mono ?_
  rintro e w5 ⟨rfl, hb5⟩
  replace hb5 := Bel.call hB hb5
  clear hB HX C13
  go_wp2_with fail
  go_ret
  exact ⟨rfl, hb5⟩
set_option maxHeartbeats 1000000 in
theorem rtag_some (key p T : ByteArray) (x : Int) (l : List ByteArray) (a : Addr) (n cap : Nat) (hl : l.length = n) (hn : n ≤ 1000) (w : World) (hx : ∀ (i : Nat) (s : ByteArray), l[i]? = some s → w.cell? (a.add i) = some (.string s))
    (C13 : ∀ W v, Txs W v (l ++ [p]) → Calls Try.prog 13 #[.string key, v] W fun e w' => e = .returned (.tuple #[.string T, .int .i64 x]) ∧ Below W.heap.size W w') :
    Calls Try.prog 36 #[.string key, .slice (some a) n cap, .string p] w fun e w' => e = .returned (.string T) ∧ Below w.heap.size w w' := by
  obtain ⟨i0, hi, hz0, hz1, hz2⟩ := info_parts Try.inf9
  have HL : Hid (l.length = n) := hl
  have hB : Below w.heap.size w w := Below.refl _ _
  clear hl
  go_enter Try.func36, Try.ntmps36
  go_wp2_with (at_builtin; refine stopAt ?_)
  unfold Stop
  refine wpList_append_own _ rfl _ _ 22 rfl w.heap.size 9 i0 (.string ⟨#[]⟩) 1 16 Try.underlying22 hi hz0 hz1 hz2 rfl (by decide) _ 0 [] rfl (World.ownsRow_nil _ _ _ _) a n cap (l.map Value.string) rfl (by rw [List.length_map, HL.out, Nat.mul_one]) (fun j u hu => ?_) (fun u hu => ?_) (by unfold maxLen; omega) (by omega) (Nat.le_refl _) ?_
  · rw [List.getElem?_map] at hu
    cases hq : l[j]? with
    | none => rw [hq] at hu; cases hu
    | some s => rw [hq] at hu; cases hu; exact hx j s hq
  · obtain ⟨s, _, rfl⟩ := List.mem_map.1 hu
    rfl
  intro v1 w3 hown hgrow3 hnil3
  replace hB : Below w.heap.size w w3 := hB.grown hgrow3 (Nat.le_refl _) (fun q hq => by cases hq)
  rw [Nat.zero_add, List.nil_append] at hown
  have HO : Hid (w3.ownsRow w.heap.size 9 1 v1 n (l.map Value.string)) := hown
  clear hgrow3 hnil3 hown hx
  go_wp2_with (at_builtin; refine stopAt ?_)
  unfold Stop
  refine wpList_append_own _ rfl _ _ 22 rfl w.heap.size 9 i0 (.string ⟨#[]⟩) 1 16 Try.underlying22 hi hz0 hz1 hz2 rfl (by decide) _ n (l.map Value.string) rfl (World.ownsRow.alloc HO.out _) ⟨_, 0, none⟩ 1 1 [.string p] rfl rfl (news_new _ _ _) (by simp [Value.oneCell']) (by unfold maxLen; omega) (by omega) (by have := hB.size; first | (simp; done) | (simp; omega)) ?_
  intro v2 w4 hown' hgrow4 hnil4
  replace hB : Below w.heap.size w w4 := (Bel.al hB _).grown hgrow4 (by have := hB.size; first | (simp; done) | (simp; omega)) (fun q hq => (HO.out.lt q hq).1)
  have HX : Hid (Txs w4 v2 (l ++ [p])) := own_txs (b := w.heap.size) (n := n + 1) (by rw [List.map_append]; exact hown') (by simp [HL.out])
  clear hgrow4 hnil4 hown' HO
  go_wp2_with fail
  refine (C13 _ _ HX.out).mono ?_
  rintro e w5 ⟨rfl, hb5⟩
  replace hb5 := Bel.call hB hb5
  clear hB HX C13
  go_wp2_with fail
  go_ret
  exact ⟨rfl, hb5⟩
theorem rtag_any (key p : ByteArray) (hk : Key key) (v : Value) (l : List ByteArray) (hl : l.length < 127) (hls : ∀ s ∈ l, s.size ≤ 1000000) (hp : p.size ≤ 1000000) (w : World) (hv : Txs w v l) :
    Calls Try.prog 36 #[.string key, v, .string p] w fun e w' => e = .returned (.string (tx (rowF key l p))) ∧ Below w.heap.size w w' := by
  have e1 : s2E key (l ++ [p]) = 0 := by
    unfold s2E
    rw [if_pos (kE_0.2 hk), if_neg (by simp; omega)]
  have e2 : s2S key (l ++ [p]) = tx (rowF key l p) := by
    unfold s2S s2F
    rw [if_pos e1, List.getLast?_append]
    simp
  have C13 : ∀ W v, Txs W v (l ++ [p]) → Calls Try.prog 13 #[.string key, v] W fun e w' => e = .returned (.tuple #[.string (tx (rowF key l p)), .int .i64 0]) ∧ Below W.heap.size W w' := fun W v h => by
    have := rS2v_any key v (l ++ [p]) (fun s hs => by
      rcases List.mem_append.1 hs with h1 | h1
      · exact hls s h1
      · rw [List.mem_singleton.1 h1]; exact hp) W h
    rwa [e1, e2] at this
  rcases hv with ⟨rfl, h2⟩ | ⟨a, cap, rfl, _, hc⟩
  · exact rtag_nil key p _ 0 l h2 w C13
  · exact rtag_some key p _ 0 l a _ cap rfl (by omega) w hc C13
end Go.Proofs.Ytogkijjmimaccaa
