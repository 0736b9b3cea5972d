/- The reference: Keys. -/
import Derived.Test.YtnmikancbfaejaaR7
set_option linter.all false
set_option maxRecDepth 100000
namespace Go.Proofs.Ytnmikancbfaejaa
open Go.RowKit Go.Sort
theorem Try.info9 : (Try.prog.info? 9).map (fun i => (i.zero, i.size, i.bytes)) = some (some (.string ⟨#[]⟩), 1, 16) := by kernel_rfl
theorem convO (W : World) (g o c : Nat) (f : Nat → By) (hA : ∀ j, j < 16 → W.cell? ⟨g, o + j, none⟩ = some (bc f j)) : (convert 48 9 (.slice (some ⟨g, o, none⟩) 16 c)).run Try.prog W = .ok (.string (tx f)) W := by
  rw [run_convert_bytes_string W 48 9 5 _ 16 c Try.underlying48 Try.underlying5 Try.underlying9]
  refine run_bytesToString W ⟨g, o, none⟩ 16 c ((List.range 16).map fun j => ((f j).val : Int)) ?_
  have := run_loadCells_list (P := Try.prog) W ⟨g, o, none⟩ (((List.range 16).map fun j => ((f j).val : Int)).map (Value.int .u8)) (fun j u hu => by
    have hj : j < 16 := by have := (List.getElem?_eq_some_iff.1 hu).1; simpa using this
    rw [Addr.add_mid, hA j hj, ← hu]
    simp [hj, bc])
  rw [List.length_map, List.length_map, List.length_range] at this
  exact this
/-- Round keys as texts. -/
def rkT (key : ByteArray) (i : Nat) : ByteArray := tx (rk key i)
def rkL (key : ByteArray) (k : Nat) : List Value := (List.range k).map fun i => .string (rkT key i)
theorem rkL_succ (key : ByteArray) (k : Nat) : rkL key (k + 1) = rkL key k ++ [.string (rkT key k)] := by simp [rkL, List.range_succ]
theorem own9_form {W : World} {b n : Nat} {v : Value} {xs : List Value} (h : W.ownsRow b 9 1 v n xs) : ∃ ao c, v = .slice ao n c := by
  rcases h.2 with ⟨h, h0⟩ | ⟨g, c, _, h, _⟩
  · exact ⟨none, 0, by rw [h, h0]⟩
  · exact ⟨_, c, h⟩
set_option maxHeartbeats 4000000 in
theorem rKeys_core (key : ByteArray) (X M : Nat) (KB : Nat → By) (hX15 : X ≤ 15) (HMX : Hid (M = 16 * X)) (hX1 : 1 ≤ X) (hK : ∀ i j, KB (16 * i + j) = rk key i j)
    (C26 : ∀ W, Calls Try.prog 26 #[.string key] W fun e w' => e = .returned (.bool true) ∧ w' = W)
    (C27 : ∀ W, Calls Try.prog 27 #[.string key] W fun e w' => ∃ g cap, e = .returned (.slice (some ⟨g, 0, none⟩) M cap) ∧ Rw w' g M cap KB ∧ Below W.heap.size W w' ∧ W.heap.size ≤ g) (w : World) :
    Calls Try.prog 14 #[.string key] w fun e w' => ∃ v, e = .returned (.tuple #[v, .int .i64 0]) ∧ w'.ownsRow w.heap.size 9 1 v X (rkL key X) ∧ Below w.heap.size w w' := by
  obtain ⟨i0, hi, hz0, hz1, hz2⟩ := info_parts Try.info9
  have hnot : ∀ (x : Bool) (w : World), (Op.unary .not (.bool x)).run Try.prog w = .ok (.bool (!x)) w := fun _ _ => rfl
  go_enter Try.func14, Try.ntmps14
  go_wp2_with fail
  refine (C26 _).mono ?_
  rintro e w1 ⟨rfl, rfl⟩
  go_wp2_with fail
  refine (C27 _).mono ?_
  rintro e w2 ⟨gw, cw, rfl, hR, B2, hg⟩
  have m16 : (16 : Int) ≤ (M : Int) := by have := HMX.out; omega
  have Mb : (M : Int) ≤ 240 := by have := HMX.out; omega
  have mcw : (M : Int) ≤ (cw : Int) := by have := hR.1; omega
  have lw : gw < w2.heap.size := block_lt_of_cell (hR.c 0 (by have := HMX.out; omega))
  clear C26 C27
  go_wp2_with fail
  go_loopw [5, 6] (fun v i wr => ∃ (k y : Nat) (L : List Value), k ≤ X ∧ y = 16 * k ∧ i = .int .i64 (y : Int) ∧ wr.ownsRow w2.heap.size 9 1 v k L ∧ L = rkL key k ∧ Rw wr gw M cw KB ∧ Below w1.heap.size w1 wr ∧ w2.heap.size ≤ wr.heap.size) (fun _ i _ => M - (intOf i).toNat)
  case atStart => exact ⟨0, 0, [], by omega, rfl, rfl, World.ownsRow_nil _ _ _ _, rfl, hR, B2, Nat.le_refl _⟩
  case round =>
    clear hR B2
    obtain ⟨k, y, L, hk, hy, rfl, hown, hL, hR, hB, hs2⟩ := hrel
    have HY : Hid (y = 16 * k) := hy
    have y0 : (0 : Int) ≤ (y : Int) := by omega
    by_cases hlt : k < X
    · have yM : (y : Int) < (M : Int) := by have := HMX.out; omega
      have yb : (y : Int) ≤ 224 := by omega
      have l1 : (y : Int) + 16 ≤ (cw : Int) := by have := HMX.out; omega
      have nyc : ¬ cw = y := by have := HMX.out; omega
      clear hy
      have cv := convO wr gw y (cw - y) (rk key k) (fun j hj => by rw [hR.c (y + j) (by have := HMX.out; have := HY.out; omega), HY.out]; unfold bc; rw [hK])
      have HL : Hid (rkL key (k + 1) = L ++ [.string (rkT key k)]) := by show _ = _; rw [rkL_succ, hL]
      change _ = Result.ok (Value.string (rkT key k)) wr at cv
      generalize rkT key k = S at *
      obtain ⟨ao, cc, hv⟩ := own9_form hown
      subst hv
      have kb : k + 1 ≤ maxLen := by unfold maxLen; omega
      have kb2 : (k + 1) * 16 ≤ 140737488355328 := by omega
      have sb : ∀ ob, w2.heap.size ≤ (wr.alloc ob).heap.size := fun ob => by simp; omega
      have HO : Hid (wr.ownsRow w2.heap.size 9 1 (.slice ao k cc) k L) := hown
      clear hL hown
      go_wp2_with (at_builtin; refine stopAt ?_)
      unfold Stop
      refine wpList_append_own _ rfl _ _ 26 rfl w2.heap.size 9 i0 (.string ⟨#[]⟩) 1 16 Try.underlying26 hi hz0 hz1 hz2 rfl (by decide) _ _ _ rfl (World.ownsRow.alloc HO.out _) ⟨_, 0, none⟩ 1 1 [.string S] rfl rfl (news_new _ _ _) (by simp [Value.oneCell']) kb kb2 (sb _) ?_
      intro v' w3 hown' hgrow3 hnil3
      have b3 : Below w2.heap.size wr w3 := ((Below.refl _ _).alloc (by omega) _).grown hgrow3 (sb _) (fun q hq => (HO.out.lt q hq).1)
      have R3 : Rw w3 gw M cw KB := by
        obtain ⟨h1, F, hA, hF⟩ := hR
        exact ⟨h1, F, hA.below b3 lw, hF⟩
      have B3 := hB.trans (b3.mono (by omega))
      have s3 := b3.size
      clear hnil3 hgrow3 b3 hR hB
      go_wp2_with fail
      refine ⟨⟨k + 1, y + 16, _, by omega, by have := HY.out; omega, by go_num, hown', HL.out.symm, R3, B3, by omega⟩, by simp [intOf]; omega⟩
    · have e : k = X := by omega
      have yM : ¬ (y : Int) < (M : Int) := by have := HMX.out; omega
      clear hy
      subst e
      subst hL
      have HO : Hid (wr.ownsRow w2.heap.size 9 1 u5 k (rkL key k)) := hown
      have s2 := w2.heap.size
      have HB : Hid (w1.heap.size ≤ w2.heap.size) := by show _ ≤ _; omega
      clear hown
      go_wp2_with fail
      refine bodyPost_ret (v := .tuple #[u5, .int .i64 0]) (by simp [results, Try.results14, go_sem]) rfl ?_
      refine ⟨u5, rfl, ?_, hB⟩
      have h := HO.out
      refine ⟨h.1, ?_⟩
      rcases h.2 with h | ⟨g, c, cur, e1, e2, e3⟩
      · exact .inl h
      · exact .inr ⟨g, c, cur, e1, by have := HB.out; omega, e3⟩
set_option maxHeartbeats 1000000 in
theorem rKeys_no (key : ByteArray) (h : isK key = false) (w : World) :
    Calls Try.prog 14 #[.string key] w fun e w' => e = .returned (.tuple #[.slice none 0 0, .int .i64 13]) ∧ w' = w := by
  have C26 := fun W => rsized_any key W
  rw [h] at C26
  have hnot : ∀ (x : Bool) (w : World), (Op.unary .not (.bool x)).run Try.prog w = .ok (.bool (!x)) w := fun _ _ => rfl
  go_enter Try.func14, Try.ntmps14
  go_wp2_with fail
  refine (C26 _).mono ?_
  rintro e w1 ⟨rfl, rfl⟩
  go_wp2_with fail
  refine bodyPost_ret (v := .tuple #[.slice none 0 0, .int .i64 13]) (by simp [results, Try.results14, go_sem]) rfl ?_
  exact ⟨rfl, rfl⟩
theorem rKeys_any (key : ByteArray) (hk : Key key) (w : World) :
    Calls Try.prog 14 #[.string key] w fun e w' => ∃ v, e = .returned (.tuple #[v, .int .i64 0]) ∧ w'.ownsRow w.heap.size 9 1 v (nkO key + 7) (rkL key (nkO key + 7)) ∧ Below w.heap.size w w' := by
  have nb := nk_bd hk
  have C26 := fun W => rsized_any key W
  rw [(isK_iff key).2 hk] at C26
  exact rKeys_core key (nkO key + 7) _ (KBo key) (by omega) rfl (by omega) (fun i j => rfl) C26 (fun W => rwords_any key hk W) w
end Go.Proofs.Ytnmikancbfaejaa
