/- Label and Derive of both. -/
import Derived.Test.YtfglpcfacjedmaaDoorH3
import Derived.Test.YtfglpcfacjedmaaDoorH7
set_option linter.all false
set_option maxRecDepth 100000
namespace Go.Proofs.YtfglpcfacjedmaaDoor
open Go.RowKit Go.Sort
theorem infS_size (l c : ByteArray) (n : Int) : (infS l c n).size ≤ 10000 := by
  rcases infE_cases l c n with ⟨h, e1, e2⟩ | ⟨a, b, h, e1, e2⟩ | ⟨a, b, p, q, e1, e2⟩
  · rw [e2]; decide
  · rw [e2]; decide
  · rw [e2]
    unfold infT
    rw [ByteArray.size_append, ByteArray.size_append, ByteArray.size_append, by1_size, by1_size, ctS_size, ctS_size, ByteArray.size_append, tls_size]
    omega
/-- What Label answers. -/
def lbE (l c : ByteArray) (n : Int) : Int := if infE l c n = 0 then exE n else infE l c n
def lbS (s l c : ByteArray) (n : Int) : ByteArray := if infE l c n = 0 then exS s (infS l c n) n else ⟨#[]⟩
theorem label_no (s l c i : ByteArray) (n e : Int) (he : e = 12 ∨ e = 13) (w : World)
    (C13 : ∀ W, Calls Tryd.prog 46 #[.string l, .string c, .int .i64 n] W fun r w' => r = .returned (.tuple #[.string i, .int .i64 e]) ∧ Below W.heap.size W w') :
    Calls Tryd.prog 34 #[.string s, .string l, .string c, .int .i64 n] w fun r w' => r = .returned (.tuple #[.string ⟨#[]⟩, .int .i64 e]) ∧ Below w.heap.size w w' := by
  have e0 : ¬ e = 0 := by omega
  go_enter Tryd.func34, Tryd.ntmps34
  go_wp2_with (go_at_call 46; refine (C13 _).mono ?_; rintro r w1 ⟨rfl, hb⟩)
  refine bodyPost_ret (v := .tuple #[.string ⟨#[]⟩, .int .i64 e]) (by simp [results, Tryd.results34, go_sem]) rfl ?_
  exact ⟨rfl, hb⟩
theorem label_yes (s l c i o : ByteArray) (n e : Int) (w : World) (hT : Tab w)
    (C13 : ∀ W, Calls Tryd.prog 46 #[.string l, .string c, .int .i64 n] W fun r w' => r = .returned (.tuple #[.string i, .int .i64 0]) ∧ Below W.heap.size W w')
    (C9 : ∀ W, Tab W → Calls Tryd.prog 47 #[.string s, .string i, .int .i64 n] W fun r w' => r = .returned (.tuple #[.string o, .int .i64 e]) ∧ Below W.heap.size W w') :
    Calls Tryd.prog 34 #[.string s, .string l, .string c, .int .i64 n] w fun r w' => r = .returned (.tuple #[.string o, .int .i64 e]) ∧ Below w.heap.size w w' := by
  go_enter Tryd.func34, Tryd.ntmps34
  go_wp2_with (first | (go_at_call 46; refine (C13 _).mono ?_; rintro r w1 ⟨rfl, hb⟩; have hT1 := hT.to hb) | (go_at_call 47; refine (C9 _ hT1).mono ?_; rintro r w2 ⟨rfl, hb2⟩))
  refine bodyPost_ret (v := .tuple #[.string o, .int .i64 e]) (by simp [results, Tryd.results34, go_sem]) rfl ?_
  exact ⟨rfl, Bel.call hb hb2⟩
theorem rlabel_no (s l c i : ByteArray) (n e : Int) (he : e = 12 ∨ e = 13) (w : World)
    (C13 : ∀ W, Calls Tryd.prog 39 #[.string l, .string c, .int .i64 n] W fun r w' => r = .returned (.tuple #[.string i, .int .i64 e]) ∧ Below W.heap.size W w') :
    Calls Tryd.prog 29 #[.string s, .string l, .string c, .int .i64 n] w fun r w' => r = .returned (.tuple #[.string ⟨#[]⟩, .int .i64 e]) ∧ Below w.heap.size w w' := by
  have e0 : ¬ e = 0 := by omega
  go_enter Tryd.func29, Tryd.ntmps29
  go_wp2_with (go_at_call 39; refine (C13 _).mono ?_; rintro r w1 ⟨rfl, hb⟩)
  refine bodyPost_ret (v := .tuple #[.string ⟨#[]⟩, .int .i64 e]) (by simp [results, Tryd.results29, go_sem]) rfl ?_
  exact ⟨rfl, hb⟩
theorem rlabel_yes (s l c i o : ByteArray) (n e : Int) (w : World)
    (C13 : ∀ W, Calls Tryd.prog 39 #[.string l, .string c, .int .i64 n] W fun r w' => r = .returned (.tuple #[.string i, .int .i64 0]) ∧ Below W.heap.size W w')
    (C9 : ∀ W, Calls Tryd.prog 40 #[.string s, .string i, .int .i64 n] W fun r w' => r = .returned (.tuple #[.string o, .int .i64 e]) ∧ Below W.heap.size W w') :
    Calls Tryd.prog 29 #[.string s, .string l, .string c, .int .i64 n] w fun r w' => r = .returned (.tuple #[.string o, .int .i64 e]) ∧ Below w.heap.size w w' := by
  go_enter Tryd.func29, Tryd.ntmps29
  go_wp2_with (first | (go_at_call 39; refine (C13 _).mono ?_; rintro r w1 ⟨rfl, hb⟩) | (go_at_call 40; refine (C9 _).mono ?_; rintro r w2 ⟨rfl, hb2⟩))
  refine bodyPost_ret (v := .tuple #[.string o, .int .i64 e]) (by simp [results, Tryd.results29, go_sem]) rfl ?_
  exact ⟨rfl, Bel.call hb hb2⟩
theorem infE_or (l c : ByteArray) (n : Int) : infE l c n = 0 ∨ (infE l c n = 12 ∨ infE l c n = 13) := by
  rcases infE_cases l c n with ⟨h, e1, e2⟩ | ⟨a, b, h, e1, e2⟩ | ⟨a, b, p, q, e1, e2⟩
  · exact .inr (.inr e1)
  · exact .inr (.inl e1)
  · exact .inl e1
theorem label_any (s l c : ByteArray) (hs : s.size ≤ 100000) (hl : l.size ≤ maxLen) (hc : c.size ≤ 100000) (n : Int) (w : World) (hT : Tab w) :
    Calls Tryd.prog 34 #[.string s, .string l, .string c, .int .i64 n] w fun r w' => r = .returned (.tuple #[.string (lbS s l c n), .int .i64 (lbE l c n)]) ∧ Below w.heap.size w w' := by
  have C := fun W => info_any l c hl (by unfold maxLen; omega) n W
  unfold lbS lbE
  rcases infE_or l c n with h | h
  · rw [if_pos h, if_pos h]
    rw [h] at C
    exact label_yes s l c _ _ n _ w hT C (fun W hW => expand_any s _ (by omega) (infS_size l c n) n W hW)
  · have h0 : ¬ infE l c n = 0 := by omega
    rw [if_neg h0, if_neg h0]
    exact label_no s l c _ n _ h w C
theorem rlabel_any (s l c : ByteArray) (hs : s.size ≤ 100000) (hl : l.size ≤ maxLen) (hc : c.size ≤ 100000) (n : Int) (w : World) :
    Calls Tryd.prog 29 #[.string s, .string l, .string c, .int .i64 n] w fun r w' => r = .returned (.tuple #[.string (lbS s l c n), .int .i64 (lbE l c n)]) ∧ Below w.heap.size w w' := by
  have C := fun W => rinfo_any l c hl (by unfold maxLen; omega) n W
  unfold lbS lbE
  rcases infE_or l c n with h | h
  · rw [if_pos h, if_pos h]
    rw [h] at C
    exact rlabel_yes s l c _ _ n _ w C (fun W => rexpand_any s _ (by omega) (infS_size l c n) n W)
  · have h0 : ¬ infE l c n = 0 := by omega
    rw [if_neg h0, if_neg h0]
    exact rlabel_no s l c _ n _ h w C
theorem derive_any (s l c : ByteArray) (hs : s.size ≤ 100000) (hl : l.size ≤ maxLen) (hc : c.size ≤ 100000) (w : World) (hT : Tab w) :
    Calls Tryd.prog 32 #[.string s, .string l, .string c] w fun r w' => r = .returned (.tuple #[.string (lbS s l c 32), .int .i64 (lbE l c 32)]) ∧ Below w.heap.size w w' := by
  have C := label_any s l c hs hl hc 32 w hT
  generalize lbS s l c 32 = S at *
  generalize lbE l c 32 = e at *
  go_enter Tryd.func32, Tryd.ntmps32
  go_wp2_with (go_at_call 34; refine C.mono ?_; rintro r w1 ⟨rfl, hb⟩)
  refine bodyPost_ret (v := .tuple #[.string S, .int .i64 e]) (by simp [results, Tryd.results32, go_sem]) rfl ?_
  exact ⟨rfl, hb⟩
theorem rderive_any (s l c : ByteArray) (hs : s.size ≤ 100000) (hl : l.size ≤ maxLen) (hc : c.size ≤ 100000) (w : World) :
    Calls Tryd.prog 26 #[.string s, .string l, .string c] w fun r w' => r = .returned (.tuple #[.string (lbS s l c 32), .int .i64 (lbE l c 32)]) ∧ Below w.heap.size w w' := by
  have C := rlabel_any s l c hs hl hc 32 w
  generalize lbS s l c 32 = S at *
  generalize lbE l c 32 = e at *
  go_enter Tryd.func26, Tryd.ntmps26
  go_wp2_with (go_at_call 29; refine C.mono ?_; rintro r w1 ⟨rfl, hb⟩)
  refine bodyPost_ret (v := .tuple #[.string S, .int .i64 e]) (by simp [results, Tryd.results26, go_sem]) rfl ?_
  exact ⟨rfl, hb⟩
end Go.Proofs.YtfglpcfacjedmaaDoor
