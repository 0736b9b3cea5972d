/- RecPieces. -/
import Derived.Test.YtjaljnfijhfkcaaLA
set_option linter.all false
set_option maxRecDepth 100000
namespace Go.Proofs.Ytjaljnfijhfkcaa
open Go.RowKit Go.Sort
/-- A row of records. -/
def RowC (k : Int) (l : List ByteArray) (g : Nat) (W : World) : Prop := g < W.heap.size ∧ ∀ i p, l[i]? = some p → W.cell? ⟨g, i * 2, none⟩ = some (.int .i64 k) ∧ W.cell? ⟨g, i * 2 + 1, none⟩ = some (.string p)
theorem RowC.to {k : Int} {l : List ByteArray} {g : Nat} {W W' : World} (h : RowC k l g W) (hb : Below W.heap.size W W') : RowC k l g W' :=
  ⟨Nat.lt_of_lt_of_le h.1 hb.size, fun i p hp => ⟨(hb.cell (p := ⟨g, i * 2, none⟩) h.1).trans (h.2 i p hp).1, (hb.cell (p := ⟨g, i * 2 + 1, none⟩) h.1).trans (h.2 i p hp).2⟩⟩
theorem rcC_at (k : Int) : ∀ (l : List ByteArray) (i : Nat) (p : ByteArray), l[i]? = some p → (rcC k l)[2 * i]? = some (.int .i64 k) ∧ (rcC k l)[2 * i + 1]? = some (.string p) := by
  intro l
  induction l with
  | nil => intro i p h; cases h
  | cons a l ih =>
    intro i p h
    have e : rcC k (a :: l) = .int .i64 k :: .string a :: rcC k l := by simp [rcC]
    rw [e]
    cases i with
    | zero =>
      simp only [List.getElem?_cons_zero, Option.some.injEq] at h
      subst h
      exact ⟨rfl, rfl⟩
    | succ i =>
      have := ih i p (by simpa using h)
      rw [show 2 * (i + 1) = 2 * i + 1 + 1 by omega]
      simpa using this
theorem rows_of {k : Int} {l : List ByteArray} {b : Nat} {v : Value} {W : World} (h : W.ownsRow b 23 2 v l.length (rcC k l)) (hl : l ≠ []) : ∃ g c, v = .slice (some ⟨g, 0, none⟩) l.length c ∧ RowC k l g W := by
  rcases h.2 with ⟨rfl, h0⟩ | ⟨g, c, cur, rfl, hg⟩
  · exact absurd (List.eq_nil_of_length_eq_zero h0) hl
  · have hc := World.ownsRow.cells h rfl
    refine ⟨g, c, rfl, ?_, fun i p hp => ?_⟩
    · cases l with
      | nil => exact absurd rfl hl
      | cons a l => exact block_lt_of_cell (hc 0 (.int .i64 k) (by simp [rcC]))
    · obtain ⟨h1, h2⟩ := rcC_at k l i p hp
      have a1 := hc _ _ h1
      have a2 := hc _ _ h2
      rw [Addr.add_mid, Nat.zero_add, Nat.mul_comm] at a1 a2
      exact ⟨a1, a2⟩
theorem pcs_at (s : ByteArray) (i : Nat) (h : i < nP s) : (pcs s)[i]? = some (pc s i) := by unfold pcs upP; simp [h]
theorem pcs_len (s : ByteArray) : (pcs s).length = nP s := by unfold pcs upP; simp
theorem pc_size (s : ByteArray) (i : Nat) : (pc s i).size = min 16384 (s.size - 16384 * i) := by unfold pc; rw [ByteArray.size_extract]; omega
/-- The first i pieces together. -/
def hd (s : ByteArray) (i : Nat) : ByteArray := s.extract 0 (16384 * i)
theorem hd_succ (s : ByteArray) (i : Nat) : hd s i ++ pc s i = hd s (i + 1) := by
  apply ba_ext
  unfold hd pc
  rw [ap_list, ext_list, ext_list, ext_list, List.drop_zero, Nat.sub_zero, Nat.sub_zero]
  rw [show 16384 * (i + 1) = 16384 * i + (16384 * (i + 1) - 16384 * i) by omega]
  rw [show 16384 * i + (16384 * (i + 1) - 16384 * i) - 16384 * i = 16384 * (i + 1) - 16384 * i by omega]
  exact List.take_add.symm
theorem hd_all (s : ByteArray) (i : Nat) (h : s.size ≤ 16384 * i) : hd s i = s := by
  apply ba_ext
  unfold hd
  rw [ext_list, List.drop_zero, Nat.sub_zero, List.take_of_length_le (by rw [len_list]; exact h)]
theorem hd_size (s : ByteArray) (i : Nat) : (hd s i).size = min (16384 * i) s.size := by unfold hd; rw [ByteArray.size_extract]; omega
set_option maxHeartbeats 1000000 in
theorem RecPieces_1 (k : Int) (s : ByteArray) (h : 70000 < s.size) (w : World) : Calls Try.prog 4 #[.int .i64 k, .string s] w fun e w' => e = .returned (.bool true) ∧ Below w.heap.size w w' := by
  have i1 : (70000 : Int) < (s.size : Int) := by omega
  go_enter Try.func4, Try.ntmps4
  go_wp2_with (go_at_call 5; refine (awake_any _).mono ?_; rintro e w9 ⟨rfl, b9⟩)
  go_ret
  exact ⟨rfl, b9⟩
set_option maxHeartbeats 2000000 in
theorem RecPieces_2 (k : Int) (s : ByteArray) (h : s.size = 0) (w : World) : Calls Try.prog 4 #[.int .i64 k, .string s] w fun e w' => e = .returned (.bool true) ∧ Below w.heap.size w w' := by
  have e : s = ⟨#[]⟩ := ba_ext (by have := List.eq_nil_of_length_eq_zero (l := s.data.toList) (by rw [len_list]; exact h); rw [this])
  subst e
  have C := Split_any k ⟨#[]⟩ (by decide) w
  have e0 : pcs ⟨#[]⟩ = [] := rfl
  rw [e0] at C
  go_enter Try.func4, Try.ntmps4
  go_wp2_with (first | (go_at_call 11; refine C.mono ?_; rintro e w1 ⟨v, rfl, hv, b1⟩; obtain ⟨ao, cv, rfl⟩ := own_formR hv))
  refine wp_loop_rounds 1 ?_
  rw [rounds_succ]
  go_wp2_with (go_at_call 5; refine (awake_any _).mono ?_; rintro e w9 ⟨rfl, b9⟩)
  go_ret
  exact ⟨rfl, Bel.call b1 b9⟩
set_option maxHeartbeats 4000000 in
theorem RecPieces_3 (k : Int) (s : ByteArray) (h : s.size ≤ 70000) (h0 : s.size ≠ 0) (w : World) : Calls Try.prog 4 #[.int .i64 k, .string s] w fun e w' => e = .returned (.bool true) ∧ Below w.heap.size w w' := by
  have i1 : ¬ (70000 : Int) < (s.size : Int) := by omega
  have C := Split_any k s (by omega) w
  obtain ⟨n, hn⟩ : ∃ n, nP s = n := ⟨_, rfl⟩
  have n0 : 0 < n := by unfold nP at hn; omega
  have n5 : n ≤ 10 := by unfold nP at hn; omega
  have hl := pcs_len s
  rw [hn] at hl
  have HN : Hid (nP s = n) := hn
  clear hn
  go_enter Try.func4, Try.ntmps4
  go_wp2_with (first | (go_at_call 11; refine C.mono ?_; rintro e w1 ⟨v, rfl, hv, b1⟩; obtain ⟨g, cv, rfl, hR⟩ := rows_of hv (by intro c; rw [c] at hl; simp at hl; omega); clear hv; rw [hl]))
  have z0 : hd s 0 = ⟨#[]⟩ := ba_ext (by unfold hd; rw [ext_list]; simp)
  go_loopw [18, 5] (fun i a wr => ∃ j : Nat, j ≤ n ∧ i = .int .i64 j ∧ a = .string (hd s j) ∧ Below w.heap.size w wr ∧ RowC k (pcs s) g wr) (fun i _ _ => n - (intOf i).toNat)
  case atStart => exact ⟨0, by omega, rfl, by rw [z0], b1, hR⟩
  case round =>
    clear b1 hR z0
    obtain ⟨j, hj, rfl, rfl, hB, hR⟩ := hrel
    have j0 : (0 : Int) ≤ (j : Int) := by omega
    have n1 : (n : Int) ≤ 10 := by omega
    by_cases hlt : j < n
    · have j1 : (j : Int) < (n : Int) := by omega
      obtain ⟨c0, c1⟩ := hR.2 j (pc s j) (pcs_at s j (by rw [HN.out]; exact hlt))
      have zp := pc_size s j
      have hn' := HN.out
      unfold nP at hn'
      have te := ne_nil_of (t := pc s j) (by omega)
      have p1 : ¬ (16384 : Int) < ((pc s j).size : Int) := by omega
      have p2 : ((pc s j).size : Int) ≤ 16384 := by omega
      have hz := hd_size s j
      have q1 : ((hd s j).size : Int) ≤ 100000 := by omega
      have HP : Hid (hd s j ++ pc s j = hd s (j + 1)) := hd_succ s j
      have PL : (j : Int) < (n : Int) - 1 → ((pc s j).size : Int) = 16384 := fun c => by omega
      clear hn' zp hz
      generalize pc s j = x at *
      generalize hd s j = y at *
      by_cases hlast : (j : Int) < (n : Int) - 1
      · have p3 := PL hlast
        clear PL te
        have te := ne_nil_of (t := x) (by omega)
        go_wp2_with fail
        refine ⟨⟨j + 1, by omega, by go_num, by rw [← HP.out], Bel.al hB _, hR.to ((Below.refl _ wr).alloc (Nat.le_refl _) _)⟩, by simp [intOf]; omega⟩
      · clear PL
        go_wp2_with fail
        refine ⟨⟨j + 1, by omega, by go_num, by rw [← HP.out], Bel.al hB _, hR.to ((Below.refl _ wr).alloc (Nat.le_refl _) _)⟩, by simp [intOf]; omega⟩
    · have ej : j = n := by omega
      subst ej
      have ea : hd s j = s := hd_all s j (by have := HN.out; unfold nP at this; omega)
      rw [ea]
      clear ea
      go_wp2_with (go_at_call 5; refine (awake_any _).mono ?_; rintro e w9 ⟨rfl, b9⟩)
      go_ret
      exact ⟨rfl, Bel.call hB b9⟩
theorem RecPieces_any (k : Int) (s : ByteArray) (w : World) : Calls Try.prog 4 #[.int .i64 k, .string s] w fun e w' => e = .returned (.bool true) ∧ Below w.heap.size w w' := by
  by_cases h : 70000 < s.size
  · exact RecPieces_1 k s h w
  by_cases h0 : s.size = 0
  · exact RecPieces_2 k s h0 w
  · exact RecPieces_3 k s (by omega) h0 w
end Go.Proofs.Ytjaljnfijhfkcaa
