/- The law of blocks: AesBlocks. -/
import Derived.Test.YtnmikancbfaejaaD5
import Derived.Test.YtnmikancbfaejaaR8
import Derived.Test.YtnmikancbfaejaaL1
set_option linter.all false
set_option maxRecDepth 100000
namespace Go.Proofs.Ytnmikancbfaejaa
open Go.RowKit Go.Sort
theorem own9_some {W : World} {b n : Nat} {v : Value} {xs : List Value} (h : W.ownsRow b 9 1 v n xs) (hn : n ≠ 0) : ∃ g c, v = .slice (some ⟨g, 0, none⟩) n c := by
  rcases h.2 with ⟨_, h⟩ | ⟨g, c, _, h, _⟩
  · exact absurd h hn
  · exact ⟨g, c, h⟩
set_option maxHeartbeats 4000000 in
theorem blocks_no (key block a c : ByteArray) (r : Int) (w : World)
    (C13 : ∀ W, Calls Try.prog 13 #[.string key] W fun e w' => e = .returned (.tuple #[.slice none 0 0, .int .i64 13]) ∧ w' = W)
    (C14 : ∀ W, Calls Try.prog 14 #[.string key] W fun e w' => e = .returned (.tuple #[.slice none 0 0, .int .i64 13]) ∧ w' = W)
    (C15 : ∀ W, Calls Try.prog 15 #[.string key, .string block] W fun e w' => e = .returned (.tuple #[.string a, .int .i64 r]) ∧ Below W.heap.size W w')
    (C16 : ∀ W, Calls Try.prog 16 #[.string key, .string block] W fun e w' => e = .returned (.tuple #[.string a, .int .i64 r]) ∧ Below W.heap.size W w')
    (C17 : ∀ W, Calls Try.prog 17 #[.string key, .string block] W fun e w' => e = .returned (.tuple #[.string c, .int .i64 r]) ∧ Below W.heap.size W w')
    (C18 : ∀ W, Calls Try.prog 18 #[.string key, .string block] W fun e w' => e = .returned (.tuple #[.string c, .int .i64 r]) ∧ Below W.heap.size W w') :
    Calls Try.prog 4 #[.string key, .string block] w fun e w' => e = .returned (.bool true) ∧ Below w.heap.size w w' := by
  have C12 := fun W => awake_any W
  go_enter Try.func4, Try.ntmps4
  go_wp2_with fail
  refine (C13 _).mono ?_
  rintro e w1 ⟨rfl, rfl⟩
  go_wp2_with fail
  refine (C14 _).mono ?_
  rintro e w2 ⟨rfl, rfl⟩
  go_wp2_with fail
  go_loopw [40] (fun i wr => i = .int .i64 0 ∧ wr = w2) (fun _ _ => 0)
  case atStart => exact ⟨rfl, rfl⟩
  case round =>
    obtain ⟨rfl, rfl⟩ := hrel
    go_wp2_with fail
    refine (C15 _).mono ?_
    rintro e w3 ⟨rfl, B3⟩
    go_wp2_with fail
    refine (C16 _).mono ?_
    rintro e w4 ⟨rfl, B4⟩
    go_wp2_with fail
    refine (C17 _).mono ?_
    rintro e w5 ⟨rfl, B5⟩
    go_wp2_with fail
    refine (C18 _).mono ?_
    rintro e w6 ⟨rfl, B6⟩
    go_wp2_with fail
    refine (C12 _).mono ?_
    rintro e w7 ⟨rfl, B7⟩
    go_wp2_with fail
    go_ret
    exact ⟨rfl, Bel.call (Bel.call (Bel.call (Bel.call B3 B4) B5) B6) B7⟩
set_option maxHeartbeats 8000000 in
theorem blocks_yes (key block a c : ByteArray) (r : Int) (X : Nat) (T : Nat → ByteArray) (hX : 0 < X) (hX15 : X ≤ 15) (xs : List Value) (hxs : ∀ j, j < X → xs[j]? = some (.string (T j))) (w : World)
    (C13 : ∀ W, Calls Try.prog 13 #[.string key] W fun e w' => ∃ v, e = .returned (.tuple #[v, .int .i64 0]) ∧ w'.ownsRow W.heap.size 9 1 v X xs ∧ Below W.heap.size W w')
    (C14 : ∀ W, Calls Try.prog 14 #[.string key] W fun e w' => ∃ v, e = .returned (.tuple #[v, .int .i64 0]) ∧ w'.ownsRow W.heap.size 9 1 v X xs ∧ Below W.heap.size W w')
    (C15 : ∀ W, Calls Try.prog 15 #[.string key, .string block] W fun e w' => e = .returned (.tuple #[.string a, .int .i64 r]) ∧ Below W.heap.size W w')
    (C16 : ∀ W, Calls Try.prog 16 #[.string key, .string block] W fun e w' => e = .returned (.tuple #[.string a, .int .i64 r]) ∧ Below W.heap.size W w')
    (C17 : ∀ W, Calls Try.prog 17 #[.string key, .string block] W fun e w' => e = .returned (.tuple #[.string c, .int .i64 r]) ∧ Below W.heap.size W w')
    (C18 : ∀ W, Calls Try.prog 18 #[.string key, .string block] W fun e w' => e = .returned (.tuple #[.string c, .int .i64 r]) ∧ Below W.heap.size W w') :
    Calls Try.prog 4 #[.string key, .string block] w fun e w' => e = .returned (.bool true) ∧ Below w.heap.size w w' := by
  have C12 := fun W => awake_any W
  go_enter Try.func4, Try.ntmps4
  go_wp2_with fail
  refine (C13 _).mono ?_
  rintro e w1 ⟨v1, rfl, R1, B1⟩
  obtain ⟨g1, c1, hv1⟩ := own9_some R1 (by omega)
  subst hv1
  have D1 : ∀ j, j < X → w1.cell? ⟨g1, j, none⟩ = some (.string (T j)) := fun j hj => by
    have := World.ownsRow.cells R1 (g := g1) rfl j _ (hxs j hj)
    rwa [Addr.add_mid, Nat.zero_add] at this
  clear C13 R1
  go_wp2_with fail
  refine (C14 _).mono ?_
  rintro e w2 ⟨v2, rfl, R2, B2⟩
  obtain ⟨g2, c2, hv2⟩ := own9_some R2 (by omega)
  subst hv2
  have D2 : ∀ j, j < X → w2.cell? ⟨g2, j, none⟩ = some (.string (T j)) := fun j hj => by
    have := World.ownsRow.cells R2 (g := g2) rfl j _ (hxs j hj)
    rwa [Addr.add_mid, Nat.zero_add] at this
  have D1' : ∀ j, j < X → w2.cell? ⟨g1, j, none⟩ = some (.string (T j)) := fun j hj => (B2.cell (p := ⟨g1, j, none⟩) (block_lt_of_cell (D1 j hj))).trans (D1 j hj)
  have B12 := Bel.call B1 B2
  have HD : Hid ((∀ j, j < X → w2.cell? ⟨g1, j, none⟩ = some (.string (T j))) ∧ ∀ j, j < X → w2.cell? ⟨g2, j, none⟩ = some (.string (T j))) := ⟨D1', D2⟩
  have x0 : (0 : Int) ≤ (X : Int) := by omega
  have x15 : (X : Int) ≤ 15 := by omega
  clear C14 R2 D1 D2 D1' B1 B2 hxs
  go_wp2_with fail
  go_loopw [40] (fun i wr => ∃ k : Nat, k ≤ X ∧ i = .int .i64 (k : Int) ∧ Below w.heap.size w wr ∧ Hid ((∀ j, j < X → wr.cell? ⟨g1, j, none⟩ = some (.string (T j))) ∧ ∀ j, j < X → wr.cell? ⟨g2, j, none⟩ = some (.string (T j)))) (fun i _ => X - (intOf i).toNat)
  case atStart => exact ⟨0, by omega, rfl, B12, HD⟩
  case round =>
    clear HD B12
    obtain ⟨k, hk, rfl, hB, HD⟩ := hrel
    have k0 : (0 : Int) ≤ (k : Int) := by omega
    by_cases hlt : k < X
    · have k1 : (k : Int) < (X : Int) := by omega
      have c1' := HD.out.1 k hlt
      have c2' := HD.out.2 k hlt
      have r1 := fun ds os => cell_regrown c1' ds os
      have r2 := fun ds os => cell_regrown c2' ds os
      generalize T k = S at *
      clear C15 C16 C17 C18 C12
      go_wp2_with fail
      refine wp_region_quiet_below (by kernel_rfl) (by kernel_rfl) ?_
      repeat (go_big_quiet_step (fail))
      refine wpQuiet_nil ?_
      intro w3 hw'
      obtain ⟨⟨dq, osq⟩, hw''⟩ := hw'
      have hb := below_of hw''
      clear hw'' r1 r2 c1' c2'
      have B3 := Bel.call hB hb
      have HD3 : Hid ((∀ j, j < X → w3.cell? ⟨g1, j, none⟩ = some (.string (T j))) ∧ ∀ j, j < X → w3.cell? ⟨g2, j, none⟩ = some (.string (T j))) :=
        ⟨fun j hj => (hb.cell (p := ⟨g1, j, none⟩) (block_lt_of_cell (HD.out.1 j hj))).trans (HD.out.1 j hj), fun j hj => (hb.cell (p := ⟨g2, j, none⟩) (block_lt_of_cell (HD.out.2 j hj))).trans (HD.out.2 j hj)⟩
      clear HD hB hb
      go_wp2_with fail
      exact ⟨⟨k + 1, by omega, by go_num, B3, HD3⟩, by simp [intOf]; omega⟩
    · have k1 : ¬ (k : Int) < (X : Int) := by omega
      clear HD
      go_wp2_with fail
      refine (C15 _).mono ?_
      rintro e w3 ⟨rfl, B3⟩
      go_wp2_with fail
      refine (C16 _).mono ?_
      rintro e w4 ⟨rfl, B4⟩
      go_wp2_with fail
      refine (C17 _).mono ?_
      rintro e w5 ⟨rfl, B5⟩
      go_wp2_with fail
      refine (C18 _).mono ?_
      rintro e w6 ⟨rfl, B6⟩
      go_wp2_with fail
      refine (C12 _).mono ?_
      rintro e w7 ⟨rfl, B7⟩
      go_wp2_with fail
      go_ret
      exact ⟨rfl, Bel.call (Bel.call (Bel.call (Bel.call (Bel.call hB B3) B4) B5) B6) B7⟩
theorem blocks_law (key block : ByteArray) (w : World) : Calls Try.prog 4 #[.string key, .string block] w fun e w' => e = .returned (.bool true) ∧ Below w.heap.size w w' := by
  by_cases h : isK key = true
  · have hk := (isK_iff key).1 h
    have nb := nk_bd hk
    exact blocks_yes key block _ _ _ (nkO key + 7) (rkT key) (by omega) (by omega) (rkL key (nkO key + 7)) (fun j hj => by simp [rkL, hj]) w (fun W => keys_any key hk W) (fun W => rKeys_any key hk W) (fun W => encrypt_any key block W) (fun W => rEncrypt_any key block W) (fun W => decrypt_any key block W) (fun W => rDecrypt_any key block W)
  · have h2 : isK key = false := by simpa using h
    exact blocks_no key block _ _ _ w (fun W => keys_no key h2 W) (fun W => rKeys_no key h2 W) (fun W => encrypt_any key block W) (fun W => rEncrypt_any key block W) (fun W => decrypt_any key block W) (fun W => rDecrypt_any key block W)
end Go.Proofs.Ytnmikancbfaejaa
