/- What the reference's Parse answers. -/
import Derived.Laws.AppendOwn
import Derived.Test.YtpigofooblmdhaaJ9
set_option linter.all false
set_option maxRecDepth 100000
namespace Go.Proofs.Ytpigofooblmdhaa
open Go.RowKit
theorem pn_pair (f : Nat → Int) : ∀ k, pn 8 (fun j => 16 * f (2 * j) + f (2 * j + 1)) k = pn 4 f (2 * k) := by
  intro k
  induction k with
  | zero => rfl
  | succ k ih =>
    show pn 8 _ k * 2 ^ 8 + (16 * f (2 * k) + f (2 * k + 1)) = (pn 4 f (2 * k) * 2 ^ 4 + f (2 * k)) * 2 ^ 4 + f (2 * k + 1)
    rw [ih]
    omega
def pr (s : ByteArray) (k : Nat) : List Int := (List.range k).map fun j => 16 * dg s (2 * j) + dg s (2 * j + 1)
theorem pr_next (s : ByteArray) (k : Nat) : (pr s (k + 1)).map (Value.int .u8) = (pr s k).map (Value.int .u8) ++ [.int .u8 (16 * dg s (2 * k) + dg s (2 * k + 1))] := by
  unfold pr; rw [List.range_succ]; simp
theorem dgi_yes (c : Int) (h : dgo c = true) : dgi c = dgv c := by unfold dgi; rw [if_pos h]
theorem dgi_no (c : Int) (h : ¬ dgo c = true) : dgi c = -1 := by unfold dgi; rw [if_neg h]
theorem convC (W : World) (g n c : Nat) (ns : List Int) (hn : ns.length = n) (hc : ∀ j u, (ns.map (Value.int .u8))[j]? = some u → W.cell? ((⟨g, 0, none⟩ : Addr).add j) = some u) :
    (convert 43 9 (.slice (some ⟨g, 0, none⟩) n c)).run Try.prog W = .ok (.string (mkS ns)) W := by
  rw [run_convert_bytes_string W 43 9 5 _ n c Try.underlying43 Try.underlying5 Try.underlying9]
  refine run_bytesToString W ⟨g, 0, none⟩ n c ns ?_
  have := run_loadCells_list (P := Try.prog) W ⟨g, 0, none⟩ (ns.map (Value.int .u8)) hc
  rw [List.length_map, hn] at this
  exact this
set_option maxHeartbeats 1000000 in
theorem refParse_no (s : ByteArray) (hs : s.size ≤ maxLen) (hn : s.size ≠ 64) (w : World) :
    Calls Try.prog 9 #[.string s] w fun e w' => e = .returned (.tuple #[.agg #[.int .u64 0, .int .u64 0, .int .u64 0, .int .u64 0], .int .i64 (lenE s.size 64)]) ∧ Below w.heap.size w w' := by
  have LE := fun W => sized_any s 64 hs W
  have ne : ¬ lenE (s.size : Int) 64 = 0 := by unfold lenE; split <;> (try split) <;> omega
  generalize lenE (s.size : Int) 64 = E at *
  have neb : (E == 0) = false := by simp [ne]
  have nnb : (E != 0) = true := by simp [ne]
  go_enter Try.func9, Try.ntmps9
  go_wp2_with (go_at_call 51; refine (LE _).mono ?_; rintro e w1 ⟨rfl, rfl⟩)
  go_loopw [4, 5, 6] (fun e v i wr => e = .int .i64 E ∧ i = .int .i64 0 ∧ Below w.heap.size w wr ∧ Arr wr w.heap.size 4 (fun _ => .int .u64 0))
    (fun _ _ _ _ => 0)
  case atStart => exact ⟨rfl, rfl, by go_grown, Arr.mk4 (by simp [go_sem]) (by simp [go_sem]) (by simp [go_sem]) (by simp [go_sem]) (by simp [go_sem]) (by simp [go_sem]) (by simp [go_sem]) (by simp [go_sem])⟩
  case round =>
    clear LE
    obtain ⟨rfl, rfl, hB, hZ⟩ := hrel
    have r0 := hZ.c
    have z0 := hZ.z
    clear hZ
    go_wp2_with fail
    all_goals
      refine bodyPost_ret (v := .tuple #[.agg #[.int .u64 0, .int .u64 0, .int .u64 0, .int .u64 0], .int .i64 E]) (by simp [results, Try.results9, go_sem, r0]) rfl ⟨rfl, ?_⟩
      go_grown
end Go.Proofs.Ytpigofooblmdhaa
