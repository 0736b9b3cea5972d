/- The laws' walks: ShaBlocks, ShaHashes. -/
import Derived.Test.YtbmnmmdkpemknaaDoorL2
import Derived.Test.YtbmnmmdkpemknaaDoorE1
set_option linter.all false
set_option maxRecDepth 100000
namespace Go.Proofs.YtbmnmmdkpemknaaDoor
open Go.RowKit Go.Sort
set_option maxHeartbeats 4000000 in
theorem blocks_law (h y : Nat → Int) (s : ByteArray) (r : Int) (w : World) (hT : Tab w)
    (C8 : ∀ W, Tab W → Calls Tryd.prog 8 #[w8 h, .string s] W fun e w' => e = .returned (.tuple #[w8 y, .int .i64 r]) ∧ Below W.heap.size W w')
    (C9 : ∀ W, Calls Tryd.prog 9 #[w8 h, .string s] W fun e w' => e = .returned (.tuple #[w8 y, .int .i64 r]) ∧ Below W.heap.size W w')
    (CA : ∀ W, Tab W → Calls Tryd.prog 10 #[] W fun e w' => e = .returned (.bool true) ∧ Below W.heap.size W w') :
    Calls Tryd.prog 3 #[w8 h, .string s] w fun e w' => e = .returned (.bool true) ∧ Below w.heap.size w w' := by
  have q23 := eq23
  unfold w8 at *
  go_enter Tryd.func3, Tryd.ntmps3
  go_wp2_with fail
  have A0 := Arr.new w #[.int .u32 (h 0), .int .u32 (h 1), .int .u32 (h 2), .int .u32 (h 3), .int .u32 (h 4), .int .u32 (h 5), .int .u32 (h 6), .int .u32 (h 7)] 23 _ rfl _ 8 (h8_at h)
  refine (C8 _ (hT.al _)).mono ?_
  rintro e w1 ⟨rfl, hb⟩
  have A1 := A0.to' hb
  have B1 : Below w.heap.size w w1 := Bel.call (by go_grown) hb
  have T1 := hT.bel B1
  have c1 := fun o => (A1.al' o).c
  clear hb A0 C8
  go_wp2_with fail
  refine (C9 _).mono ?_
  rintro e w2 ⟨rfl, hb⟩
  have B2 := Bel.call (Bel.al B1 _) hb
  have T2 := hT.bel B2
  have Ay := (Arr.new w1 #[.int .u32 (y 0), .int .u32 (y 1), .int .u32 (y 2), .int .u32 (y 3), .int .u32 (y 4), .int .u32 (y 5), .int .u32 (y 6), .int .u32 (y 7)] 23 _ rfl _ 8 (h8_at y)).to' hb
  have l1 := Ay.lt
  have cy := fun o => (Ay.al' o).c
  clear hb A1 B1 T1 C9 c1
  go_wp2_with fail
  refine (CA _ (T2.al _)).mono ?_
  rintro e w3 ⟨rfl, hb⟩
  have B3 := Bel.call (Bel.al B2 _) hb
  clear hb B2 T2 CA cy Ay
  go_wp2_with fail
  go_ret
  exact ⟨rfl, B3⟩
theorem blocks_true (h : Nat → Int) (s : ByteArray) (hs : s.size ≤ maxLen) (w : World) (hT : Tab w) : Calls Tryd.prog 3 #[w8 h, .string s] w fun e w' => e = .returned (.bool true) ∧ Below w.heap.size w w' := by
  by_cases c : s.size = 64
  · refine blocks_law h (mixF h s) s 0 w hT (fun W hW => ?_) (fun W => ?_) (fun W hW => awake_any W hW)
    · have := block_any h s hs W hW
      rw [blkV, if_pos c, made_one h s c] at this
      exact this
    · have := rblock_any h s hs W
      rw [if_pos c] at this
      exact this
  · refine blocks_law h (fun _ => 0) s 10 w hT (fun W hW => ?_) (fun W => ?_) (fun W hW => awake_any W hW)
    · have := block_any h s hs W hW
      rw [blkV, if_neg c] at this
      exact this
    · have := rblock_any h s hs W
      rw [if_neg c] at this
      exact this
set_option maxHeartbeats 4000000 in
theorem hashes_law (key s : ByteArray) (D M : ByteArray) (w : World) (hT : Tab w) (hk : key.size ≤ maxLen) (hs : s.size ≤ maxLen)
    (C12 : (s.size : Int) ≤ 20000 → ∀ W, Tab W → Calls Tryd.prog 12 #[.string s] W fun e w' => e = .returned (.string D) ∧ Below W.heap.size W w')
    (C13 : (s.size : Int) ≤ 20000 → ∀ W, Calls Tryd.prog 13 #[.string s] W fun e w' => e = .returned (.string D) ∧ Below W.heap.size W w')
    (C14 : (key.size : Int) ≤ 20000 → (s.size : Int) ≤ 20000 → ∀ W, Tab W → Calls Tryd.prog 14 #[.string key, .string s] W fun e w' => e = .returned (.string M) ∧ Below W.heap.size W w')
    (C15 : (key.size : Int) ≤ 20000 → (s.size : Int) ≤ 20000 → ∀ W, Calls Tryd.prog 15 #[.string key, .string s] W fun e w' => e = .returned (.string M) ∧ Below W.heap.size W w')
    (CA : ∀ W, Tab W → Calls Tryd.prog 10 #[] W fun e w' => e = .returned (.bool true) ∧ Below W.heap.size W w') :
    Calls Tryd.prog 4 #[.string key, .string s] w fun e w' => e = .returned (.bool true) ∧ Below w.heap.size w w' := by
  have SK := fun W => short_any key hk W
  have SS := fun W => short_any s hs W
  by_cases k : (key.size : Int) ≤ 20000
  · rw [decide_eq_true k] at SK
    by_cases c : (s.size : Int) ≤ 20000
    · rw [decide_eq_true c] at SS
      have c12 := C12 c
      have c13 := C13 c
      have c14 := C14 k c
      have c15 := C15 k c
      clear C12 C13 C14 C15
      go_enter Tryd.func4, Tryd.ntmps4
      go_wp2_with fail
      refine (SK _).mono ?_
      rintro e w0 ⟨rfl, rfl⟩
      go_wp2_with fail
      refine (SS _).mono ?_
      rintro e w0 ⟨rfl, rfl⟩
      clear SK SS
      go_wp2_with fail
      refine (c12 _ hT).mono ?_
      rintro e w1 ⟨rfl, hb⟩
      have B1 := hb
      clear hb c12
      go_wp2_with fail
      refine (c13 _).mono ?_
      rintro e w2 ⟨rfl, hb⟩
      have B2 := Bel.call B1 hb
      have T2 := hT.bel B2
      clear hb c13 B1
      go_wp2_with fail
      refine (c14 _ T2).mono ?_
      rintro e w3 ⟨rfl, hb⟩
      have B3 := Bel.call B2 hb
      clear hb c14 B2 T2
      go_wp2_with fail
      refine (c15 _).mono ?_
      rintro e w4 ⟨rfl, hb⟩
      have B4 := Bel.call B3 hb
      have T4 := hT.bel B4
      clear hb c15 B3
      go_wp2_with fail
      refine (CA _ T4).mono ?_
      rintro e w5 ⟨rfl, hb⟩
      have B5 := Bel.call B4 hb
      clear hb CA B4 T4
      go_wp2_with fail
      go_ret
      exact ⟨rfl, B5⟩
    · rw [decide_eq_false c] at SS
      clear C12 C13 C14 C15
      go_enter Tryd.func4, Tryd.ntmps4
      go_wp2_with fail
      refine (SK _).mono ?_
      rintro e w0 ⟨rfl, rfl⟩
      go_wp2_with fail
      refine (SS _).mono ?_
      rintro e w0 ⟨rfl, rfl⟩
      clear SK SS
      go_wp2_with fail
      refine (CA _ hT).mono ?_
      rintro e w5 ⟨rfl, hb⟩
      have B5 := hb
      clear hb CA
      go_wp2_with fail
      go_ret
      exact ⟨rfl, B5⟩
  · rw [decide_eq_false k] at SK
    clear C12 C13 C14 C15
    go_enter Tryd.func4, Tryd.ntmps4
    go_wp2_with fail
    refine (SK _).mono ?_
    rintro e w0 ⟨rfl, rfl⟩
    clear SK SS
    go_wp2_with fail
    refine (CA _ hT).mono ?_
    rintro e w5 ⟨rfl, hb⟩
    have B5 := hb
    clear hb CA
    go_wp2_with fail
    go_ret
    exact ⟨rfl, B5⟩
theorem hashes_true (key s : ByteArray) (hk : key.size ≤ maxLen) (hs : s.size ≤ maxLen) (w : World) (hT : Tab w) : Calls Tryd.prog 4 #[.string key, .string s] w fun e w' => e = .returned (.bool true) ∧ Below w.heap.size w w' :=
  hashes_law key s _ _ w hT hk hs (fun h W hW => of_any s (by omega) W hW) (fun h W => rof_any s (by omega) W) (fun h1 h2 W hW => mac_any key s (by omega) (by omega) W hW) (fun h1 h2 W => rmac_any key s (by omega) (by omega) W) (fun W hW => awake_any W hW)
end Go.Proofs.YtbmnmmdkpemknaaDoor
