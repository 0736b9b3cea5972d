/- maker.derive: a secret for each label. -/
import Derived.Test.YtfglpcfacjedmaaDoorSA
set_option linter.all false
set_option maxRecDepth 100000
namespace Go.Proofs.YtfglpcfacjedmaaDoor
open Go.RowKit Go.Sort
theorem own_to {W W' : World} {b n s : Nat} {e : TypeId} {v : Value} {xs : List Value} (h : W.ownsRow b e s v n xs) (hb : Below W.heap.size W W') : W'.ownsRow b e s v n xs := by
  refine ⟨h.1, ?_⟩
  rcases h.2 with h2 | ⟨g, cap, cur, h1, h2, h3, h4⟩
  · exact .inl h2
  · refine .inr ⟨g, cap, cur, h1, h2, ?_, h4⟩
    have hg : g < W.heap.size := by
      rcases Nat.lt_or_ge g W.heap.size with c | c
      · exact c
      · rw [Array.getElem?_eq_none c] at h3; cases h3
    rw [hb.block g hg]; exact h3
theorem Tryd.info9 : (Tryd.prog.info? 9).map (fun i => (i.zero, i.size, i.bytes)) = some (some (.string ⟨#[]⟩), 1, 16) := by kernel_rfl
theorem own_form9 {W : World} {b n : Nat} {v : Value} {xs : List Value} (h : W.ownsRow b 9 1 v n xs) : ∃ ao c, v = .slice ao n c := by
  rcases h.2 with ⟨h, h0⟩ | ⟨g, c, _, h, _⟩
  · exact ⟨none, 0, by rw [h, h0]⟩
  · exact ⟨_, c, h⟩
theorem own_some9 {W : World} {b n : Nat} {v : Value} {xs : List Value} (h : W.ownsRow b 9 1 v n xs) (hn : n ≠ 0) : ∃ g c, v = .slice (some ⟨g, 0, none⟩) n c ∧ b ≤ g ∧ n ≤ c := by
  rcases h.2 with ⟨_, h⟩ | ⟨g, c, cur, h, h2, h3, h4⟩
  · exact absurd h hn
  · exact ⟨g, c, h, h2, h4.1⟩
def dvL (o : ByteArray → ByteArray) (g : Nat → ByteArray) (k : Nat) : List Value := (List.range k).map fun j => .string (o (g j))
theorem dvL_succ (o : ByteArray → ByteArray) (g : Nat → ByteArray) (k : Nat) : dvL o g (k + 1) = dvL o g k ++ [.string (o (g k))] := by simp [dvL, List.range_succ]
set_option maxHeartbeats 2000000 in
theorem derive_core (g : Nat → ByteArray) (n b : Nat) (hn : 0 < n) (hn8 : n ≤ 8) (B d : ByteArray) (o : ByteArray → ByteArray) (w : World) (hT : Tab w) (hA : Arr w b n (fun j => .string (g j)))
    (C : ∀ j, j < n → ∀ W, Tab W → Calls Tryd.prog 37 #[.string B, .string (g j), .string d] W fun e w' => e = .returned (.string (o (g j))) ∧ Below W.heap.size W w') :
    Calls Tryd.prog 20 #[mkr B d, .slice (some ⟨b, 0, none⟩) n n] w fun e w' => ∃ p cap, e = .returned (.slice (some ⟨p, 0, none⟩) n cap) ∧ w.heap.size ≤ p ∧ (∀ j, j < n → w'.cell? ⟨p, j, none⟩ = some (.string (o (g j)))) ∧ Below w.heap.size w w' := by
  obtain ⟨i0, hi, hz0, hz1, hz2⟩ := info_parts Tryd.info9
  obtain ⟨m, rfl⟩ : ∃ m, n = m + 1 := ⟨n - 1, by omega⟩
  unfold mkr
  go_enter Tryd.func20, Tryd.ntmps20
  go_wp2_with fail
  generalize hW : World.alloc _ _ = W1
  have A1 : Arr W1 w.heap.size 5 (mx B ⟨#[]⟩ ⟨#[]⟩ ⟨#[]⟩ d) := by
    rw [← hW]
    exact Arr.new _ _ _ _ rfl _ 5 (mx_at _ _ _ _ _)
  have AL : Arr W1 b (m + 1) (fun j => .string (g j)) := by
    rw [← hW]
    exact hA.al' _
  have B0 : Below w.heap.size w W1 := by rw [← hW]; go_grown
  have T0 := hT.to B0
  have s0 : w.heap.size < W1.heap.size := by rw [← hW]; simp
  clear hW hT hA
  go_loopw [5, 10] (fun v i wr => ∃ (k : Nat) (L : List Value), k ≤ m + 1 ∧ i = .int .i64 k ∧ wr.ownsRow W1.heap.size 9 1 v k L ∧ L = dvL o g k ∧ Below W1.heap.size W1 wr)
    (fun _ i _ => m + 1 - (intOf i).toNat)
  case atStart => exact ⟨0, [], by omega, rfl, World.ownsRow_nil _ _ _ _, rfl, Below.refl _ _⟩
  case round =>
    obtain ⟨k, L, hk, rfl, hown, hL, hB⟩ := hrel
    have AL' := AL.to' hB
    have A1' := A1.to' hB
    have T1 := T0.to hB
    by_cases hlt : k < m + 1
    · have k0 : (0 : Int) ≤ (k : Int) := by omega
      have k1 : (k : Int) < (m : Int) + 1 := by omega
      have c := AL'.c k hlt
      obtain ⟨ao, cv, hv⟩ := own_form9 hown
      subst hv
      have HL : Hid (dvL o g (k + 1) = L ++ [.string (o (g k))]) := by
        show _ = _
        rw [dvL_succ, hL]
      have C' := C k hlt
      have kb : k + 1 ≤ maxLen := by unfold maxLen; omega
      have kb2 : (k + 1) * 16 ≤ 140737488355328 := by omega
      have HO : Hid (wr.ownsRow W1.heap.size 9 1 (.slice ao k cv) k L) := hown
      obtain ⟨⟨j0, j1, j2, j3, j4⟩, y0, y1, y2, y3, y4⟩ := A1'.five
      generalize o (g k) = O at *
      generalize g k = y at *
      clear hL hown AL' A1' C
      go_wp2_with fail
      refine (C' _ T1).mono ?_
      rintro e w2 ⟨rfl, hb⟩
      have B2 := Bel.call hB hb
      have HO2 : Hid (w2.ownsRow W1.heap.size 9 1 (.slice ao k cv) k L) := own_to HO.out hb
      have s2 : W1.heap.size ≤ w2.heap.size := B2.size
      have sb : ∀ ob, W1.heap.size ≤ (w2.alloc ob).heap.size := fun ob => by simp; omega
      clear hb HO C' j0 j1 j2 j3 j4 y0 y1 y2 y3 y4 c hB T1
      go_wp2_with (at_builtin; refine stopAt ?_)
      unfold Stop
      refine wpList_append_own _ rfl _ _ 54 rfl W1.heap.size 9 i0 (.string ⟨#[]⟩) 1 16 Tryd.underlying54 hi hz0 hz1 hz2 rfl (by decide) _ _ _ rfl (World.ownsRow.alloc HO2.out _) ⟨_, 0, none⟩ 1 1 [.string O] rfl rfl (news_new _ _ _) (fun u hu => by simp at hu; rcases hu with rfl; rfl) kb kb2 (sb _) ?_
      intro v' w3 hown' hgrow3 hnil3
      have b3 : Below W1.heap.size W1 w3 := (B2.alloc B2.size _).grown hgrow3 (by go_size) (fun q hq => (HO2.out.lt q hq).1)
      clear hnil3 hgrow3
      go_wp2_with fail
      refine ⟨⟨k + 1, _, by omega, by go_num, hown', HL.out.symm, b3⟩, by simp [intOf]; omega⟩
    · have e : k = m + 1 := by omega
      subst e
      obtain ⟨p, c, hv, hp, hc⟩ := own_some9 hown (by omega)
      subst hv
      subst hL
      have cv := World.ownsRow.cells hown rfl
      have HC : Hid (∀ j, j < m + 1 → wr.cell? ⟨p, j, none⟩ = some (.string (o (g j)))) := fun j hj => by
        have := cv j (.string (o (g j))) (by simp [dvL, hj])
        rwa [Addr.add_mid, Nat.zero_add] at this
      have B3 := Bel.call B0 hB
      clear hown AL AL' A1 A1' C cv
      go_wp2_with fail
      go_ret
      exact ⟨p, c, rfl, by omega, HC.out, B3⟩
end Go.Proofs.YtfglpcfacjedmaaDoor
