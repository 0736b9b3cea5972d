/- Write. -/
import Derived.Test.YtjdpeedghpblgaaGreatDoorD1
import Derived.Deep.RegionHeld3
set_option linter.all false
set_option maxRecDepth 100000
namespace Go.Proofs.YtjdpeedghpblgaaGreatDoor
open Go.RowKit Go.Sort
theorem write_no (t : Int) (b : ByteArray) (hb : b.size ≤ maxLen) (E : Int) (hE : wrE t b.size = E) (h0 : ¬ E = 0) (w : World) : Calls Tryz.prog 85 #[.agg #[.int .i64 t, .string b]] w fun e w' => e = .returned (.tuple #[.string ⟨#[]⟩, .int .i64 E]) ∧ Below w.heap.size w w' := by
  have C := fun W => refused_any t b hb W
  rw [hE] at C
  clear hE
  go_enter Tryz.func85, Tryz.ntmps85
  go_wp2_with (go_at_call 103; refine (C _).mono ?_; rintro e w1 ⟨rfl, hb1⟩)
  exact bodyPost_ret (v := .tuple #[.string ⟨#[]⟩, .int .i64 E]) (by simp [results, Tryz.results85, go_sem]) rfl ⟨rfl, Bel.call (by go_grown) hb1⟩
set_option maxHeartbeats 8000000 in
theorem write_core (t : Int) (b G S1 : ByteArray) (o : Obj) (ht0 : 0 ≤ t) (ht1 : t < 256) (hb : b.size ≤ 65535) (hz : S1.size = 1) (hG : G.size ≤ 3)
    (CV : ∀ (W : World) (g : Nat), W.cell? ⟨g, 0, none⟩ = some (.int .u8 t) → (convert 61 9 (.slice (some ⟨g, 0, none⟩) 1 1)).run Tryz.prog W = .ok (.string S1) W)
    (CR : ∀ W, Calls Tryz.prog 103 #[.agg #[.int .i64 t, .string b]] W fun e w' => e = .returned (.int .i64 0) ∧ Below W.heap.size W w')
    (CL : ∀ W, Calls Tryz.prog 106 #[.int .i64 b.size] W fun e w' => e = .returned (.string G) ∧ w' = W.alloc o) (w : World) :
    Calls Tryz.prog 85 #[.agg #[.int .i64 t, .string b]] w fun e w' => e = .returned (.tuple #[.string (S1 ++ G ++ b), .int .i64 0]) ∧ Below w.heap.size w w' := by
  have e256 : t % 256 = t := by omega
  have hw : IntKind.u8.wrap t = t := by unfold IntKind.wrap; simp [IntKind.signed, IntKind.bits]; omega
  go_enter Tryz.func85, Tryz.ntmps85
  go_wp2_with (go_at_call 103; refine (CR _).mono ?_; rintro e w1 ⟨rfl, hb1⟩)
  have hbw : Below w.heap.size w w1 := Bel.call (by go_grown) hb1
  have c0 : w1.cell? ⟨w.heap.size, 0, none⟩ = some (.int .i64 t) := by rw [hb1.cell (by simp)]; simp
  have c1 : w1.cell? ⟨w.heap.size, 1, none⟩ = some (.string b) := by rw [hb1.cell (by simp)]; simp
  have lt : w.heap.size < w1.heap.size := by have := hb1.size; simp at this; omega
  have r1 : (convert 61 9 (.slice (some ⟨w1.heap.size, 0, none⟩) 1 1)).run Tryz.prog ((w1.alloc (.cells #[.int .u8 t] 5)).drew) = .ok (.string S1) ((w1.alloc (.cells #[.int .u8 t] 5)).drew) := CV _ _ (by simp [go_sem])
  have r2 : (convert 61 9 (.slice (some ⟨w1.heap.size, 0, none⟩) 1 1)).run Tryz.prog (((w1.alloc (.cells #[.int .u8 t] 5)).alloc o).drew) = .ok (.string S1) (((w1.alloc (.cells #[.int .u8 t] 5)).alloc o).drew) := CV _ _ (by simp [go_sem])
  have r3 : (convert 61 9 (.slice (some ⟨w1.heap.size + 1, 0, none⟩) 1 1)).run Tryz.prog (((w1.alloc o).alloc (.cells #[.int .u8 t] 5)).drew) = .ok (.string S1) (((w1.alloc o).alloc (.cells #[.int .u8 t] 5)).drew) := CV _ _ (by simp [go_sem])
  clear hb1 CR CV
  go_region_with (go_at_call 106; refine (CL _).mono ?_; rintro e w2 ⟨rfl, rfl⟩)
  all_goals
    go_wp2_with fail
    exact bodyPost_ret (v := .tuple #[.string (S1 ++ G ++ b), .int .i64 0]) (by simp [results, Tryz.results85, go_sem]) rfl ⟨rfl, Bel.drew (Bel.al (Bel.al hbw _) _)⟩
theorem convB (t : Int) (W : World) (g : Nat) (h : W.cell? ⟨g, 0, none⟩ = some (.int .u8 t)) : (convert 61 9 (.slice (some ⟨g, 0, none⟩) 1 1)).run Tryz.prog W = .ok (.string (mkS [t])) W :=
  convC W g 1 1 [t] rfl (fun j u hj => by
    cases j with
    | zero => simp at hj; subst hj; exact h
    | succ j => simp at hj)
/-- What Write tells of one that it does not refuse. -/
def wrS (t : Int) (b : ByteArray) : ByteArray := mkS (t :: lenL b.size) ++ b
theorem wrS_is (t : Int) (b : ByteArray) : mkS [t] ++ mkS (lenL b.size) ++ b = wrS t b := by
  unfold wrS
  congr 1
  apply ba_ext
  rw [ap_list, mkS_list, mkS_list, mkS_list]
  rfl
theorem wrE_0 (t : Int) (n : Nat) : wrE t n = 0 ↔ 0 ≤ t ∧ t < 256 ∧ n ≤ 65535 := by
  unfold wrE tagB
  by_cases a : 0 ≤ t <;> by_cases b : t < 256 <;> simp [a, b] <;> omega
theorem write_yes (t : Int) (b : ByteArray) (h : wrE t b.size = 0) (w : World) : Calls Tryz.prog 85 #[.agg #[.int .i64 t, .string b]] w fun e w' => e = .returned (.tuple #[.string (wrS t b), .int .i64 0]) ∧ Below w.heap.size w w' := by
  obtain ⟨t0, t1, hn⟩ := (wrE_0 t b.size).1 h
  obtain ⟨o, CL⟩ := length_al (b.size : Int) (by omega) (by omega)
  have := write_core t b (mkS (lenL b.size)) (mkS [t]) o t0 t1 hn (by rw [mkS_size]; rfl) (by rw [mkS_size]; exact lenL_le _) (convB t) (fun W => by have := refused_any t b (by unfold maxLen; omega) W; rw [h] at this; exact this) CL w
  rw [wrS_is] at this
  exact this
/-- What Write tells. -/
def wrR (t : Int) (b : ByteArray) : Value := if wrE t b.size = 0 then .tuple #[.string (wrS t b), .int .i64 0] else .tuple #[.string ⟨#[]⟩, .int .i64 (wrE t b.size)]
theorem write_any (t : Int) (b : ByteArray) (hb : b.size ≤ maxLen) (w : World) : Calls Tryz.prog 85 #[.agg #[.int .i64 t, .string b]] w fun e w' => e = .returned (wrR t b) ∧ Below w.heap.size w w' := by
  unfold wrR
  by_cases h : wrE t b.size = 0
  · rw [if_pos h]; exact write_yes t b h w
  · rw [if_neg h]; exact write_no t b hb _ rfl h w
end Go.Proofs.YtjdpeedghpblgaaGreatDoor
