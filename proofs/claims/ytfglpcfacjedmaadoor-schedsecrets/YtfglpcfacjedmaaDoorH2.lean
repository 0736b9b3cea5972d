/- hkdf.Info and the reference's, by letters and as they are. -/
import Derived.Test.YtfglpcfacjedmaaDoorH1
set_option linter.all false
set_option maxRecDepth 100000
namespace Go.Proofs.YtfglpcfacjedmaaDoor
open Go.RowKit Go.Sort
/-- "tls13 ". -/
def tls : ByteArray := ⟨#[116, 108, 115, 49, 51, 32]⟩
theorem tls_size : tls.size = 6 := rfl
theorem info_num (l c : ByteArray) (n : Int) (hn : n < 0 ∨ 65535 < n) (w : World) : Calls Tryd.prog 46 #[.string l, .string c, .int .i64 n] w fun e w' => e = .returned (.tuple #[.string ⟨#[]⟩, .int .i64 13]) ∧ Below w.heap.size w w' := by
  rcases hn with h | h
  · go_enter Tryd.func46, Tryd.ntmps46
    go_wp2_with fail
    refine bodyPost_ret (v := .tuple #[.string ⟨#[]⟩, .int .i64 13]) (by simp [results, Tryd.results46, go_sem]) rfl ?_
    exact ⟨rfl, Below.refl _ _⟩
  · go_enter Tryd.func46, Tryd.ntmps46
    go_wp2_with fail
    refine bodyPost_ret (v := .tuple #[.string ⟨#[]⟩, .int .i64 13]) (by simp [results, Tryd.results46, go_sem]) rfl ?_
    exact ⟨rfl, Below.refl _ _⟩
theorem info_long (l c : ByteArray) (hl : l.size ≤ maxLen) (hc : c.size ≤ maxLen) (n : Int) (h0 : 0 ≤ n) (h1 : n ≤ 65535) (h : 249 < l.size ∨ 255 < c.size) (w : World) : Calls Tryd.prog 46 #[.string l, .string c, .int .i64 n] w fun e w' => e = .returned (.tuple #[.string ⟨#[]⟩, .int .i64 12]) ∧ Below w.heap.size w w' := by
  unfold maxLen at hl hc
  rcases h with h | h
  · have i1 : (249 : Int) < (l.size : Int) := by omega
    go_enter Tryd.func46, Tryd.ntmps46
    go_wp2_with fail
    refine bodyPost_ret (v := .tuple #[.string ⟨#[]⟩, .int .i64 12]) (by simp [results, Tryd.results46, go_sem]) rfl ?_
    exact ⟨rfl, Below.refl _ _⟩
  · have i1 : (255 : Int) < (c.size : Int) := by omega
    by_cases i2 : (249 : Int) < (l.size : Int)
    · go_enter Tryd.func46, Tryd.ntmps46
      go_wp2_with fail
      refine bodyPost_ret (v := .tuple #[.string ⟨#[]⟩, .int .i64 12]) (by simp [results, Tryd.results46, go_sem]) rfl ?_
      exact ⟨rfl, Below.refl _ _⟩
    · go_enter Tryd.func46, Tryd.ntmps46
      go_wp2_with fail
      refine bodyPost_ret (v := .tuple #[.string ⟨#[]⟩, .int .i64 12]) (by simp [results, Tryd.results46, go_sem]) rfl ?_
      exact ⟨rfl, Below.refl _ _⟩
set_option maxHeartbeats 1000000 in
theorem info_core (l c a b d f T : ByteArray) (hT : tls ++ l = T) (n : Int) (h0 : 0 ≤ n) (h1 : n ≤ 65535) (hl : l.size ≤ 249) (hc : c.size ≤ 255) (w : World)
    (ha : a.size = 1) (hb : b.size = 1) (hd : d.size ≤ 1000) (hf : f.size ≤ 1000)
    (C1 : ∀ W, Calls Tryd.prog 62 #[.int .i64 (n / 256)] W fun e w' => e = .returned (.string a) ∧ Below W.heap.size W w')
    (C2 : ∀ W, Calls Tryd.prog 62 #[.int .i64 n] W fun e w' => e = .returned (.string b) ∧ Below W.heap.size W w')
    (C3 : ∀ W, Calls Tryd.prog 63 #[.string T] W fun e w' => e = .returned (.string d) ∧ Below W.heap.size W w')
    (C4 : ∀ W, Calls Tryd.prog 63 #[.string c] W fun e w' => e = .returned (.string f) ∧ Below W.heap.size W w') :
    Calls Tryd.prog 46 #[.string l, .string c, .int .i64 n] w fun e w' => e = .returned (.tuple #[.string (a ++ b ++ d ++ f), .int .i64 0]) ∧ Below w.heap.size w w' := by
  unfold tls at hT
  have i1 : ¬ (249 : Int) < (l.size : Int) := by omega
  have i2 : ¬ (255 : Int) < (c.size : Int) := by omega
  go_enter Tryd.func46, Tryd.ntmps46
  go_wp2_with (first | (go_at_call 62; refine (C1 _).mono ?_; clear C1; rintro e w1 ⟨rfl, hb1⟩) | (go_at_call 62; refine (C2 _).mono ?_; clear C2; rintro e w2 ⟨rfl, hb2⟩) | (go_at_call 63; refine (C3 _).mono ?_; clear C3; rintro e w3 ⟨rfl, hb3⟩) | (go_at_call 63; refine (C4 _).mono ?_; clear C4; rintro e w4 ⟨rfl, hb4⟩))
  refine bodyPost_ret (v := .tuple #[.string (a ++ b ++ d ++ f), .int .i64 0]) (by simp [results, Tryd.results46, go_sem]) rfl ?_
  exact ⟨rfl, Bel.call (Bel.call (Bel.call hb1 hb2) hb3) hb4⟩
end Go.Proofs.YtfglpcfacjedmaaDoor
