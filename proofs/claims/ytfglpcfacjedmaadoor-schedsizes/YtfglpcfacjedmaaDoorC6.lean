/- What sha.highFirst answers: words as bytes. -/
import Derived.Test.YtfglpcfacjedmaaDoorC1
set_option linter.all false
set_option maxRecDepth 100000
namespace Go.Proofs.YtfglpcfacjedmaaDoor
open Go.RowKit Go.Sort
def Stop (p : Prop) : Prop := p
theorem stopAt {p : Prop} (h : Stop p) : p := h
theorem Tryd.info5 : (Tryd.prog.info? 5).map (fun i => (i.zero, i.size, i.bytes)) = some (some (.int .u8 0), 1, 1) := by kernel_rfl
theorem own_form {W : World} {b n : Nat} {v : Value} {xs : List Value} (h : W.ownsRow b 5 1 v n xs) : ∃ ao c, v = .slice ao n c := by
  rcases h.2 with ⟨h, h0⟩ | ⟨g, c, _, h, _⟩
  · exact ⟨none, 0, by rw [h, h0]⟩
  · exact ⟨_, c, h⟩
theorem own_some {W : World} {b n : Nat} {v : Value} {xs : List Value} (h : W.ownsRow b 5 1 v n xs) (hn : n ≠ 0) : ∃ g c, v = .slice (some ⟨g, 0, none⟩) n c := by
  rcases h.2 with ⟨_, h⟩ | ⟨g, c, _, h, _⟩
  · exact absurd h hn
  · exact ⟨g, c, h⟩
theorem news_new (W : World) (L : List Value) (e : TypeId) : ∀ (j : Nat) (u : Value), L[j]? = some u → (W.alloc (.cells L.toArray e)).cell? ((⟨W.heap.size, 0, none⟩ : Addr).add j) = some u := by
  intro j u h
  rw [Addr.add_mid, Nat.zero_add, World.cell?_alloc_at (w := W) L.toArray e _ j rfl, List.getElem?_toArray]
  exact h
theorem convC (W : World) (g k c : Nat) (ns : List Int) (hk : ns.length = k) (hc : ∀ j u, (ns.map (Value.int .u8))[j]? = some u → W.cell? ((⟨g, 0, none⟩ : Addr).add j) = some u) :
    (convert 65 9 (.slice (some ⟨g, 0, none⟩) k c)).run Tryd.prog W = .ok (.string (mkS ns)) W := by
  rw [run_convert_bytes_string W 65 9 5 _ k c Tryd.underlying65 Tryd.underlying5 Tryd.underlying9]
  refine run_bytesToString W ⟨g, 0, none⟩ k c ns ?_
  have := run_loadCells_list (P := Tryd.prog) W ⟨g, 0, none⟩ (ns.map (Value.int .u8)) hc
  rw [List.length_map, hk] at this
  exact this
/-- A word's four bytes, the highest first. -/
def w4 (x : Int) : List Int := [x / 16777216 % 256, x / 65536 % 256, x / 256 % 256, x % 256]
def hfL (x : Nat → Int) : Nat → List Int
  | 0 => []
  | n + 1 => hfL x n ++ w4 (x n)
theorem hfL_len (x : Nat → Int) (n : Nat) : (hfL x n).length = 4 * n := by
  induction n with
  | zero => rfl
  | succ n ih => rw [hfL, List.length_append, ih]; simp [w4]; omega
set_option maxHeartbeats 2000000 in
theorem high_core (x : Nat → Int) (n b : Nat) (hn : 0 < n) (hn8 : n ≤ 8) (S : ByteArray) (hS : S = mkS (hfL x n)) (w : World) (hA : Arr w b n (fun j => .int .u32 (x j))) :
    Calls Tryd.prog 61 #[.slice (some ⟨b, 0, none⟩) n n] w fun e w' => e = .returned (.string S) ∧ Below w.heap.size w w' := by
  obtain ⟨i0, hi, hz0, hz1, hz2⟩ := info_parts Tryd.info5
  obtain ⟨m, rfl⟩ : ∃ m, n = m + 1 := ⟨n - 1, by omega⟩
  go_enter Tryd.func61, Tryd.ntmps61
  go_wp2_with fail
  go_loopw [3, 8] (fun v i wr => ∃ (k : Nat) (L : List Value), k ≤ m + 1 ∧ i = .int .i64 k ∧ wr.ownsRow w.heap.size 5 1 v (4 * k) L ∧ L = (hfL x k).map (Value.int .u8) ∧ Below w.heap.size w wr)
    (fun _ i _ => m + 1 - (intOf i).toNat)
  case atStart => exact ⟨0, [], by omega, rfl, World.ownsRow_nil _ _ _ _, rfl, by go_grown⟩
  case round =>
    obtain ⟨k, L, hk, rfl, hown, hL, hB⟩ := hrel
    have hA' := hA.to' hB
    by_cases hlt : k < m + 1
    · have k0 : (0 : Int) ≤ (k : Int) := by omega
      have k1 : (k : Int) < (m : Int) + 1 := by omega
      have c := hA'.c k hlt
      obtain ⟨ao, cv, hv⟩ := own_form hown
      subst hv
      have HL : Hid ((hfL x (k + 1)).map (Value.int .u8) = L ++ (w4 (x k)).map (Value.int .u8)) := by
        show _ = _
        rw [hfL, List.map_append, hL]
      have kb : 4 * k + 4 ≤ maxLen := by unfold maxLen; omega
      have kb2 : (4 * k + 4) * 1 ≤ 140737488355328 := by omega
      have hs := hB.size
      have sb : ∀ ob, w.heap.size ≤ (wr.alloc ob).heap.size := fun ob => by simp; omega
      have HO : Hid (wr.ownsRow w.heap.size 5 1 (.slice ao (4 * k) cv) (4 * k) L) := hown
      unfold w4 at HL
      generalize x k = y at *
      clear hL hown hA hA' hS
      go_wp2_with (at_builtin; refine stopAt ?_)
      unfold Stop
      refine wpList_append_own _ rfl _ _ 65 rfl w.heap.size 5 i0 (.int .u8 0) 1 1 Tryd.underlying65 hi hz0 hz1 hz2 rfl (by decide) _ _ _ rfl (World.ownsRow.alloc HO.out _) ⟨_, 0, none⟩ 4 4 [.int .u8 (y / 16777216 % 256), .int .u8 (y / 65536 % 256), .int .u8 (y / 256 % 256), .int .u8 (y % 256)] rfl rfl (news_new _ _ _) (fun u hu => by simp at hu; rcases hu with rfl | rfl | rfl | rfl <;> rfl) kb kb2 (sb _) ?_
      intro v' w3 hown' hgrow3 hnil3
      have b3 : Below w.heap.size w w3 := (hB.alloc hB.size _).grown hgrow3 (by go_size) (fun q hq => (HO.out.lt q hq).1)
      clear hnil3 hgrow3
      go_wp2_with fail
      refine ⟨⟨k + 1, _, by omega, by go_num, hown', HL.out.symm, b3⟩, by simp [intOf]; omega⟩
    · have e : k = m + 1 := by omega
      subst e
      obtain ⟨g, c, hv⟩ := own_some hown (by omega)
      subst hv
      subst hL
      have cv := convC wr g (4 * (m + 1)) c (hfL x (m + 1)) (hfL_len x _) (World.ownsRow.cells hown rfl)
      rw [← hS] at cv
      clear hown hA hA' hS
      go_wp2_with fail
      go_ret
      exact ⟨rfl, hB⟩
end Go.Proofs.YtfglpcfacjedmaaDoor
