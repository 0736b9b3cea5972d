/- What num.Text answers: a number's 64 digits. -/
import Derived.Test.YtpigofooblmdhaaN17
import Derived.Deep.RegionLaw
import Derived.Laws.BytesString
import Derived.Laws.MakeOwn
import Derived.Laws.MathBits
set_option linter.all false
set_option maxRecDepth 100000
namespace Go.Proofs.Ytpigofooblmdhaa
open Go.RowKit
/-- The sign that stands for a digit below 16. -/
def hexc (d : Int) : Int := if d < 10 then 48 + d else 87 + d
/-- The j-th sign of a number's text. -/
def tx (N : Int) (j : Nat) : Int := if j % 2 = 0 then hexc (byt N (j / 2) / 16) else hexc (byt N (j / 2) % 16)
def txL (N : Int) : List Int := (List.range 64).map (tx N)
/-- A number's text. -/
def txS (N : Int) : ByteArray := (txL N).foldl (fun r n => r.push (UInt8.ofNat n.toNat)) ByteArray.empty
theorem hex_idx (d : Int) (h0 : 0 ≤ d) (h1 : d < 16) (W : World) : (Instr.index 9 (.string ⟨#[48, 49, 50, 51, 52, 53, 54, 55, 56, 57, 97, 98, 99, 100, 101, 102]⟩) (.int .u8 d)).run Try.prog W = .ok (.int .u8 (hexc d)) W := by
  have h : d = 0 ∨ d = 1 ∨ d = 2 ∨ d = 3 ∨ d = 4 ∨ d = 5 ∨ d = 6 ∨ d = 7 ∨ d = 8 ∨ d = 9 ∨ d = 10 ∨ d = 11 ∨ d = 12 ∨ d = 13 ∨ d = 14 ∨ d = 15 := by omega
  rcases h with h | h | h | h | h | h | h | h | h | h | h | h | h | h | h | h <;> (rw [h]; rfl)
theorem idx58 (L : List Value) (k : Nat) (v : Int) (hk : k < 32) (hv : L[k]? = some (.int .u8 v)) (W : World) : (Instr.index 57 (.agg L.toArray) (.int .i64 (k : Int))).run Try.prog W = .ok (.int .u8 v) W := by
  have h0 : (0 : Int) ≤ (k : Int) ∧ (k : Int) < ((32 : Nat) : Int) := by omega
  have hs : (Go.sizeOf 5).run Try.prog W = .ok 1 W := by kernel_rfl
  have hv' : L.toArray[k]? = some (.int .u8 v) := by simpa using hv
  simp only [Instr.index, asIntOf, Sem.run_bind, Sem.run_pure, Result.andThen_ok, run_underlying Try.underlying57]
  rw [Sem.run_ite, if_pos h0]
  simp only [Sem.run_bind, hs, Result.andThen_ok, Int.toNat_natCast, Nat.mul_one]
  have ha : (isAgg 5).run Try.prog W = .ok false W := by kernel_rfl
  simp [part, Sem.run_bind, ha, hv']
theorem Try.info5 : (Try.prog.info? 5).map (fun i => (i.zero, i.size, i.bytes)) = some (some (.int .u8 0), 1, 1) := by kernel_rfl
theorem tx_even (N : Int) (k : Nat) : tx N (2 * k) = hexc (byt N k / 16) := by
  unfold tx; rw [if_pos (by omega)]; congr 3; omega
theorem tx_odd (N : Int) (k : Nat) : tx N (2 * k + 1) = hexc (byt N k % 16) := by
  unfold tx; rw [if_neg (by omega)]; congr 3; omega
theorem hexc_bd (d : Int) (h0 : 0 ≤ d) (h1 : d < 16) : 0 ≤ hexc d ∧ hexc d < 256 := by unfold hexc; split <;> omega
theorem made64 : ∃ C : Array Value, C.size = 64 ∧ (∀ j, j < 64 → C[j]? = some (.int .u8 0)) ∧ ∀ W : World, (Instr.makeSlice 43 (.int .i64 0) (.int .i64 64)).run Try.prog W = .ok (.slice (some ⟨W.heap.size, 0, none⟩) 0 64) (W.alloc (.cells C 5)) := by
  obtain ⟨i0, hi, hz0, hz1, hz2⟩ := info_parts Try.info5
  refine ⟨madeCells (Value.int .u8 0).cells (64 * 1), by rw [size_madeCells], ?_, fun W => ?_⟩
  · intro j hj
    simp only [madeCells, Value.cells]
    rw [Array.getElem?_map, Array.getElem?_range, if_pos (by omega)]
    simp [Nat.mod_one]
  · have := run_make (P := Try.prog) W 43 5 i0 (.int .u8 0) Try.underlying43 hi hz0 .i64 .i64 0 64 (by omega) (by omega) (by rw [hz2]; omega) (by omega)
    rw [hz1] at this
    exact this
theorem news2 (wr : World) (x y : Value) : ∀ (j : Nat) (u : Value), ([x, y] : List Value)[j]? = some u → ((wr.alloc (.cells #[x, y] 5)).drew).cell? ((⟨wr.heap.size, 0, none⟩ : Addr).add j) = some u := by
  intro j u h
  rw [Addr.add_mid]
  have hj : j < 2 := (List.getElem?_eq_some_iff.1 h).1
  have hc : j = 0 ∨ j = 1 := by omega
  rcases hc with hc | hc <;> subst hc <;> simp at h <;> subst h <;> simp [go_sem]
theorem set2 {w : World} {b n : Nat} {f : Nat → Value} (h : Arr w b n f) (o : Nat) (ho : o + 1 < n) (x y : Value) : Arr (w.setCells b o [x, y]) b n (fun j => if j = o + 1 then y else if j = o then x else f j) :=
  ((h.set o (by omega) x).set (o + 1) ho y)
theorem conv_text (W : World) (g : Nat) (ns : List Int) (h64 : ns.length = 64) (hc : ∀ j, j < 64 → W.cell? ⟨g, j, none⟩ = some (.int .u8 (ns.getD j 0))) :
    (convert 43 9 (.slice (some ⟨g, 0, none⟩) 64 64)).run Try.prog W = .ok (.string (ns.foldl (fun r n => r.push (UInt8.ofNat n.toNat)) ByteArray.empty)) W := by
  rw [run_convert_bytes_string W 43 9 5 _ 64 64 Try.underlying43 Try.underlying5 Try.underlying9]
  refine run_bytesToString W ⟨g, 0, none⟩ 64 64 ns ?_
  have := run_loadCells_list (P := Try.prog) W ⟨g, 0, none⟩ (ns.map (Value.int .u8)) (by
    intro j v hv
    rw [Addr.add_mid, Nat.zero_add]
    rw [List.getElem?_map] at hv
    obtain ⟨n, hn, rfl⟩ := Option.map_eq_some_iff.1 hv
    have hj : j < 64 := by rw [← h64]; exact (List.getElem?_eq_some_iff.1 hn).1
    rw [hc j hj, List.getD, hn]; rfl)
  rw [List.length_map, h64] at this
  exact this
theorem size_sets (b : Nat) : ∀ (vs : List Value) (o : Nat) (w : World), (w.setCells b o vs).heap.size = w.heap.size
  | [], _, _ => rfl
  | v :: r, o, w => by rw [World.setCells, size_sets b r (o + 1), size_set]
theorem text_rel {N : Int} {w wr : World} {k : Nat} (ca cb : Int) (ob : Obj) (hB : Below w.heap.size w wr) (hz : w.heap.size + 1 < wr.heap.size) (A : Arr wr (w.heap.size + 1) 64 (fun j => .int .u8 (if j < 2 * k then tx N j else 0)))
    (hlt : k < 32) (HA : tx N (2 * k) = ca) (HB : tx N (2 * k + 1) = cb) :
    Below w.heap.size w ((wr.alloc ob).drew.setCells (w.heap.size + 1) (2 * k) [.int .u8 ca, .int .u8 cb]) ∧ w.heap.size + 1 < ((wr.alloc ob).drew.setCells (w.heap.size + 1) (2 * k) [.int .u8 ca, .int .u8 cb]).heap.size ∧
      Arr ((wr.alloc ob).drew.setCells (w.heap.size + 1) (2 * k) [.int .u8 ca, .int .u8 cb]) (w.heap.size + 1) 64 (fun j => .int .u8 (if j < 2 * (k + 1) then tx N j else 0)) := by
  refine ⟨below_setCells ((hB.alloc hB.size _).drew) (by omega) _ _, by rw [size_sets]; go_size, ?_⟩
  refine (set2 ((A.alloc (by omega) _).drew) (2 * k) (by omega) _ _).congr ?_
  intro j hj
  by_cases e1 : j = 2 * k + 1
  · subst e1; rw [if_pos rfl, if_pos (by omega), HB]
  · rw [if_neg e1]
    by_cases e2 : j = 2 * k
    · subst e2; rw [if_pos rfl, if_pos (by omega), HA]
    · rw [if_neg e2]
      by_cases e3 : j < 2 * k
      · rw [if_pos e3, if_pos (by omega)]
      · rw [if_neg e3, if_neg (by omega)]
set_option maxHeartbeats 400000 in
theorem text_core (N : Int) (L : List Value) (C : Array Value) (hat : Hid (∀ j, j < 32 → L[j]? = some (.int .u8 (byt N j)))) (hC : Hid (∀ j, j < 64 → C[j]? = some (.int .u8 0)))
    (mk : ∀ W : World, (Instr.makeSlice 43 (.int .i64 0) (.int .i64 64)).run Try.prog W = .ok (.slice (some ⟨W.heap.size, 0, none⟩) 0 64) (W.alloc (.cells C 5)))
    (BB : ∀ W, Calls Try.prog 55 #[nv N] W fun e w' => e = .returned (.agg L.toArray) ∧ Below W.heap.size W w') (w : World) :
    Calls Try.prog 14 #[nv N] w fun e w' => e = .returned (.string (txS N)) ∧ Below w.heap.size w w' := by
  go_enter Try.func14, Try.ntmps14
  go_wp2_with fail
  refine (BB _).mono ?_
  rintro e w1 ⟨rfl, hb1⟩
  clear mk BB
  have A1 : Arr w1 (w.heap.size + 1) 64 (fun _ => .int .u8 0) := (Arr.new _ _ _ _ (by simp) _ 64 hC.out).below hb1 (by go_size)
  have z1 : w.heap.size + 1 < w1.heap.size := by have := hb1.size; simp at this; omega
  have hB1 : Below w.heap.size w w1 := Below.trans (by go_grown) (hb1.mono (by go_size))
  clear hb1
  go_wp2_with fail
  go_loopw [3, 9] (fun s i wr => ∃ k : Nat, k ≤ 32 ∧ i = .int .i64 k ∧ s = .slice (some ⟨w.heap.size + 1, 0, none⟩) (2 * k) 64 ∧ Below w.heap.size w wr ∧ w.heap.size + 1 < wr.heap.size ∧
      Arr wr (w.heap.size + 1) 64 (fun j => .int .u8 (if j < 2 * k then tx N j else 0)))
    (fun _ i _ => 32 - (intOf i).toNat)
  case atStart => exact ⟨0, by omega, rfl, rfl, hB1, z1, A1.congr (by intro j hj; rw [if_neg (by omega)])⟩
  case round =>
    clear A1 z1 hB1
    obtain ⟨k, hk, rfl, rfl, hB, hz, A⟩ := hrel
    by_cases hlt : k < 32
    · have k0 : (0 : Int) ≤ (k : Int) := by omega
      have k8 : (k : Int) < 32 := by omega
      have I := fun W => idx58 L k (byt N k) hlt (hat.out k hlt) W
      have bb := byt_bd N k
      have te := tx_even N k
      have to := tx_odd N k
      have d1 := fun W => hex_idx (byt N k / 16) (by omega) (by omega) W
      have d2 := fun W => hex_idx (byt N k % 16) (by omega) (by omega) W
      have a15 := u8_and15 (byt N k) bb.1 bb.2
      rw [← te] at d1
      rw [← to] at d2
      generalize byt N k = v at *
      generalize ha : tx N (2 * k) = ca at *
      generalize hb : tx N (2 * k + 1) = cb at *
      have HA : Hid (tx N (2 * k) = ca) := ha
      have HB : Hid (tx N (2 * k + 1) = cb) := hb
      clear ha hb te to
      obtain ⟨b0, b1⟩ := bb
      obtain ⟨i0, hi, hz0, hz1, hz2⟩ := info_parts Try.info5
      have ON : Hid (∀ u ∈ ([.int .u8 ca, .int .u8 cb] : List Value), u.oneCell' = true) := by
        intro u hu; simp at hu; rcases hu with rfl | rfl <;> rfl
      have SP : Hid (∀ j, j < ([.int .u8 ca, .int .u8 cb] : List Value).length → (((wr.alloc (.cells #[.int .u8 ca, .int .u8 cb] 5)).drew).cell? ⟨w.heap.size + 1, 0 + 2 * k * 1 + j, none⟩).isSome = true ∧ ((wr.alloc (.cells #[.int .u8 ca, .int .u8 cb] 5)).drew).frozen? ⟨w.heap.size + 1, 0 + 2 * k * 1 + j, none⟩ = false) := by
        intro j hj
        have hj2 : j < 2 := hj
        have := ((A.alloc hz (.cells #[.int .u8 ca, .int .u8 cb] 5)).drew) (0 + 2 * k * 1 + j) (by omega)
        exact ⟨by rw [this.1]; rfl, this.2⟩
      have HI : Hid _ := hi
      go_wp2_with fail
      go_region_law (refine step_append_room rfl (.tmp 12) (.tmp 19) 43 rfl 5 i0 1 Try.underlying43 hi hz1 (w.heap.size + 1) 0 (2 * k) 64 (by simp [Act.eval, Act.put]) ⟨wr.heap.size, 0, none⟩ 2 2 [.int .u8 ca, .int .u8 cb] (by simp [Act.eval, Act.put]) rfl (news2 _ _ _) ON.out (by omega) SP.out ?_)
      all_goals
        go_wp2_with fail
        go_roundw
        case rel => exact ⟨k + 1, by omega, by go_num, by rw [show 2 * (k + 1) = 2 * k + 2 by omega], text_rel ca cb _ hB hz A hlt HA.out HB.out⟩
        case measure => simp [intOf]; omega
    · have k8 : k = 32 := by omega
      subst k8
      have CV := conv_text wr (w.heap.size + 1) (txL N) (by simp [txL]) (by intro j hj; rw [A.c j hj, if_pos (by omega)]; simp [txL, List.getD, hj])
      clear A hat hC
      have CV' : (convert 43 9 (.slice (some ⟨w.heap.size + 1, 0, none⟩) (2 * 32) 64)).run Try.prog wr = .ok (.string (txS N)) wr := CV
      clear CV
      generalize hT : txS N = T at CV'
      have HT : Hid (txS N = T) := hT
      clear hT
      go_wp2_with fail
      go_ret
      refine ⟨?_, hB⟩
      rw [HT.out]
      rfl
theorem text_any (N : Int) (hN : 0 ≤ N) (hN' : N < top256) (w : World) :
    Calls Try.prog 14 #[nv N] w fun e w' => e = .returned (.string (txS N)) ∧ Below w.heap.size w w' := by
  obtain ⟨C, _, hC, mk⟩ := made64
  exact text_core N (bytsL N) C (bytsL_at N) hC mk (fun W => bigBytes_any N hN hN' W) w
end Go.Proofs.Ytpigofooblmdhaa
