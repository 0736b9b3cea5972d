/- The law of streams: AesStreams. -/
import Derived.Test.YtnmikancbfaejaaR7
import Derived.Test.YtnmikancbfaejaaL1
set_option linter.all false
set_option maxRecDepth 100000
namespace Go.Proofs.Ytnmikancbfaejaa
open Go.RowKit Go.Sort
set_option maxHeartbeats 4000000 in
theorem streams_core (key first s : ByteArray) (n r : Int) (h : ¬ (2000 < n ∧ n ≤ 65536)) (w : World)
    (C19 : ∀ W, Calls Try.prog 19 #[.string key, .string first, .int .i64 n] W fun e w' => e = .returned (.tuple #[.string s, .int .i64 r]) ∧ Below W.heap.size W w')
    (C20 : ∀ W, Calls Try.prog 20 #[.string key, .string first, .int .i64 n] W fun e w' => e = .returned (.tuple #[.string s, .int .i64 r]) ∧ Below W.heap.size W w') :
    Calls Try.prog 5 #[.string key, .string first, .int .i64 n] w fun e w' => e = .returned (.bool true) ∧ Below w.heap.size w w' := by
  have C12 := fun W => awake_any W
  by_cases h1 : 2000 < n
  · have h2 : ¬ n ≤ 65536 := fun e => h ⟨h1, e⟩
    clear h
    go_enter Try.func5, Try.ntmps5
    go_wp2_with fail
    refine (C19 _).mono ?_
    rintro e w1 ⟨rfl, B1⟩
    go_wp2_with fail
    refine (C20 _).mono ?_
    rintro e w2 ⟨rfl, B2⟩
    go_wp2_with fail
    refine (C12 _).mono ?_
    rintro e w3 ⟨rfl, B3⟩
    go_wp2_with fail
    go_ret
    exact ⟨rfl, Bel.call (Bel.call B1 B2) B3⟩
  · clear h
    go_enter Try.func5, Try.ntmps5
    go_wp2_with fail
    refine (C19 _).mono ?_
    rintro e w1 ⟨rfl, B1⟩
    go_wp2_with fail
    refine (C20 _).mono ?_
    rintro e w2 ⟨rfl, B2⟩
    go_wp2_with fail
    refine (C12 _).mono ?_
    rintro e w3 ⟨rfl, B3⟩
    go_wp2_with fail
    go_ret
    exact ⟨rfl, Bel.call (Bel.call B1 B2) B3⟩
set_option maxHeartbeats 4000000 in
theorem streams_great (key first : ByteArray) (n : Int) (h1 : 2000 < n) (h2 : n ≤ 65536) (w : World) :
    Calls Try.prog 5 #[.string key, .string first, .int .i64 n] w fun e w' => e = .returned (.bool true) ∧ Below w.heap.size w w' := by
  have C12 := fun W => awake_any W
  go_enter Try.func5, Try.ntmps5
  go_wp2_with fail
  refine (C12 _).mono ?_
  rintro e w3 ⟨rfl, B3⟩
  go_wp2_with fail
  go_ret
  exact ⟨rfl, B3⟩
theorem streams_law (key first : ByteArray) (n : Int) (w : World) : Calls Try.prog 5 #[.string key, .string first, .int .i64 n] w fun e w' => e = .returned (.bool true) ∧ Below w.heap.size w w' := by
  by_cases h : 2000 < n ∧ n ≤ 65536
  · exact streams_great key first n h.1 h.2 w
  · exact streams_core key first _ n _ h w (fun W => stream_any key first n W) (fun W => rstream_any key first n W)
end Go.Proofs.Ytnmikancbfaejaa
