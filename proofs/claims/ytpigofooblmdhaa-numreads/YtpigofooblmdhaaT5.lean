/- What slices.Reverse does to 32 bytes of the call's own; num.Little, num.FromLittle. -/
import Derived.Test.YtpigofooblmdhaaT4
import Derived.Laws.IdiomStrings
set_option linter.all false
set_option maxRecDepth 100000
namespace Go.Proofs.Ytpigofooblmdhaa
open Go.RowKit
/-- What block b holds when k swaps are over. -/
def rv (f : Nat → Int) (k m : Nat) : Int := if m < k ∨ 31 < m + k then f (31 - m) else f m
set_option maxHeartbeats 4000000 in
theorem reverse_any (b cap : Nat) (f : Nat → Int) (w : World) (hA : Arr w b 32 (fun m => .int .u8 (f m))) :
    Calls Try.prog 54 #[.slice (some ⟨b, 0, none⟩) 32 cap] w fun e w' => (∃ v, e = .returned v) ∧ Below b w w' ∧ w'.heap.size = w.heap.size ∧ Arr w' b 32 (fun m => .int .u8 (f (31 - m))) := by
  go_enter Try.func54, Try.ntmps54
  go_wp2_with fail
  go_loopw [2, 3] (fun i j wr => ∃ k : Nat, k ≤ 16 ∧ i = .int .i64 k ∧ j = .int .i64 (31 - (k : Int)) ∧ Below b w wr ∧ wr.heap.size = w.heap.size ∧ Arr wr b 32 (fun m => .int .u8 (rv f k m)))
    (fun i _ _ => 16 - (intOf i).toNat)
  case atStart => exact ⟨0, by omega, rfl, rfl, Below.refl _ _, rfl, hA.congr (by intro j hj; unfold rv; rw [if_neg (by omega)])⟩
  case round =>
    clear hA
    obtain ⟨k, hk, rfl, rfl, hB, hS, hA⟩ := hrel
    by_cases hlt : k < 16
    · have k0 : (0 : Int) ≤ (k : Int) := by omega
      have k31 : (k : Int) < 31 - (k : Int) := by omega
      have k32 : (k : Int) < 32 := by omega
      obtain ⟨q, hq⟩ : ∃ q : Nat, (31 : Int) - (k : Int) = (q : Int) := ⟨31 - k, by omega⟩
      rw [hq]
      rw [hq] at k31
      have q0 : (0 : Int) ≤ (q : Int) := by omega
      have q32 : (q : Int) < 32 := by omega
      have qk : q = 31 - k := by omega
      have rk : wr.cell? ⟨b, k, none⟩ = some (.int .u8 (f k)) := by
        have := hA.c k (by omega); unfold rv at this; rw [if_neg (by omega)] at this; exact this
      have rq : wr.cell? ⟨b, q, none⟩ = some (.int .u8 (f q)) := by
        have := hA.c q (by omega); unfold rv at this; rw [if_neg (by omega)] at this; exact this
      have zk := hA.z k (by omega)
      have zq := hA.z q (by omega)
      have nkq : ¬ k = q := by omega
      have nqk : ¬ q = k := by omega
      have st : Arr ((wr.setCell ⟨b, k, none⟩ (.int .u8 (f q))).setCell ⟨b, q, none⟩ (.int .u8 (f k))) b 32 (fun m => .int .u8 (rv f (k + 1) m)) := by
        refine ((hA.set k (by omega) (.int .u8 (f q))).set q (by omega) (.int .u8 (f k))).congr ?_
        intro m hm
        unfold rv
        by_cases e1 : m = q
        · rw [if_pos e1, if_pos (by omega), show 31 - m = k by omega]
        · rw [if_neg e1]
          by_cases e2 : m = k
          · rw [if_pos e2, if_pos (by omega), show 31 - m = q by omega]
          · rw [if_neg e2]
            by_cases e3 : m < k ∨ 31 < m + k
            · rw [if_pos e3, if_pos (by omega)]
            · rw [if_neg e3, if_neg (by omega)]
      have sB : Below b w ((wr.setCell ⟨b, k, none⟩ (.int .u8 (f q))).setCell ⟨b, q, none⟩ (.int .u8 (f k))) := (hB.setCell (by show _ ≤ b; omega) _).setCell (by show _ ≤ b; omega) _
      have HK : Hid (q = 31 - k) := qk
      clear qk hA hB hq
      go_wp2_with fail
      go_region
      go_wp2_with fail
      exact ⟨⟨k + 1, by omega, by go_num, by have := HK.out; go_num, sB.drew, by simp only [World.size_drew, size_set]; exact hS, st.drew⟩, by simp [intOf]; omega⟩
    · have e16 : k = 16 := by omega
      subst e16
      have fin : Arr wr b 32 (fun m => .int .u8 (f (31 - m))) := hA.congr (by intro m hm; unfold rv; rw [if_pos (by omega)])
      clear hA
      go_wp2_with fail
      go_end0
      exact ⟨⟨_, rfl⟩, hB, hS, fin⟩
set_option maxHeartbeats 1000000 in
theorem little_core (N : Int) (L : List Value) (S : ByteArray) (g : Nat → Int) (hlen : L.length = 32) (hat : Hid (∀ j, j < 32 → L[j]? = some (.int .u8 (g j)))) (ST : ∀ W : World, (storeCells ⟨W.heap.size, 0, none⟩ L).run Try.prog (W.alloc (.cells #[.int .u8 0, .int .u8 0, .int .u8 0, .int .u8 0, .int .u8 0, .int .u8 0, .int .u8 0, .int .u8 0, .int .u8 0, .int .u8 0, .int .u8 0, .int .u8 0, .int .u8 0, .int .u8 0, .int .u8 0, .int .u8 0, .int .u8 0, .int .u8 0, .int .u8 0, .int .u8 0, .int .u8 0, .int .u8 0, .int .u8 0, .int .u8 0, .int .u8 0, .int .u8 0, .int .u8 0, .int .u8 0, .int .u8 0, .int .u8 0, .int .u8 0, .int .u8 0] 57)) = .ok () (W.alloc (.cells L.toArray 57)))
    (CV : Hid (∀ (W : World) b, Arr W b 32 (fun m => .int .u8 (g (31 - m))) → (convert 43 9 (.slice (some ⟨b, 0, none⟩) 32 32)).run Try.prog W = .ok (.string S) W))
    (BB : ∀ W, Calls Try.prog 55 #[nv N] W fun e w' => e = .returned (.agg L.toArray) ∧ Below W.heap.size W w') (w : World) :
    Calls Try.prog 18 #[nv N] w fun e w' => e = .returned (.string S) ∧ Below w.heap.size w w' := by
  go_enter Try.func18, Try.ntmps18
  go_wp2_with fail
  refine (BB _).mono ?_
  rintro e w1 ⟨rfl, hb1⟩
  have hB1 : Below w.heap.size w w1 := Below.trans (by go_grown) (hb1.mono (by go_size))
  have hA : Arr (w1.alloc (.cells L.toArray 57)) w1.heap.size 32 (fun m => .int .u8 (g m)) := Arr.new _ _ _ _ rfl _ 32 (by intro i hi; rw [List.getElem?_toArray]; exact hat.out i hi)
  clear hb1 BB
  go_wp2_with fail
  refine (reverse_any w1.heap.size 32 g _ hA).mono ?_
  rintro e w2 ⟨⟨v, rfl⟩, hb2, hs2, hA2⟩
  have cv := CV.out w2 w1.heap.size hA2
  have hB2 : Below w.heap.size w w2 := (hB1.alloc hB1.size _).trans (hb2.mono hB1.size)
  clear hA hA2 hb2
  go_wp2_with fail
  go_ret
  exact ⟨rfl, hB2⟩
/-- A number's bytes, the lowest first. -/
def ltL (N : Int) : List Int := (List.range 32).map fun j => byt N (31 - j)
theorem ltL_at (N : Int) (j : Nat) (hj : j < 32) : (ltL N)[j]? = some (byt N (31 - j)) := by simp [ltL, hj]
theorem little_any (N : Int) (hN : 0 ≤ N) (hN' : N < top256) (w : World) :
    Calls Try.prog 18 #[nv N] w fun e w' => e = .returned (.string (mkS (ltL N))) ∧ Below w.heap.size w w' := by
  refine little_core N (bytsL N) (mkS (ltL N)) (byt N) (bytsL_len N) (bytsL_at N) (fun W => store32 _ (bytsL_len N) (bytsL_one N) W) (fun W b hA => ?_) (fun W => bigBytes_any N hN hN' W) w
  refine conv32 _ _ _ (by simp [ltL]) ?_
  intro j hj
  rw [hA.c j hj, List.getD, ltL_at N j hj]; rfl
theorem convN (W : World) (g cap : Nat) (ns : List Int) (h32 : ns.length = 32) (hc : ∀ j, j < 32 → W.cell? ⟨g, j, none⟩ = some (.int .u8 (ns.getD j 0))) :
    (convert 43 9 (.slice (some ⟨g, 0, none⟩) 32 cap)).run Try.prog W = .ok (.string (mkS ns)) W := by
  rw [run_convert_bytes_string W 43 9 5 _ 32 cap Try.underlying43 Try.underlying5 Try.underlying9]
  refine run_bytesToString W ⟨g, 0, none⟩ 32 cap ns ?_
  have := run_loadCells_list (P := Try.prog) W ⟨g, 0, none⟩ (ns.map (Value.int .u8)) (by
    intro j v hv
    rw [Addr.add_mid, Nat.zero_add]
    rw [List.getElem?_map] at hv
    obtain ⟨n, hn, rfl⟩ := Option.map_eq_some_iff.1 hv
    have hj : j < 32 := by rw [← h32]; exact (List.getElem?_eq_some_iff.1 hn).1
    rw [hc j hj, List.getD, hn]; rfl)
  rw [List.length_map, h32] at this
  exact this
/-- A text's bytes turned round. -/
def tnL (s : ByteArray) : List Int := (List.range 32).map fun j => bt s (31 - j)
theorem tnL_at (s : ByteArray) (j : Nat) (hj : j < 32) : (tnL s)[j]? = some (bt s (31 - j)) := by simp [tnL, hj]
theorem toBytes (s : ByteArray) (hs : s.size = 32) (W : World) : ∃ (cap : Nat) (o : Obj), (convert 9 43 (.string s)).run Try.prog W = .ok (.slice (some ⟨W.heap.size, 0, none⟩) 32 cap) (W.drew.alloc o) ∧ Arr (W.drew.alloc o) W.heap.size 32 (fun m => .int .u8 (bt s m)) := by
  have h := run_bytes_of_string (P := Try.prog) W 9 43 5 s Try.underlying9 Try.underlying43 Try.underlying5
  rw [hs] at h
  refine ⟨_, _, h, ?_⟩
  intro j hj
  have hh : ∀ o : Obj, (W.drew.alloc o).heap[W.heap.size]? = some o := fun o => by
    show (W.heap.push o)[W.heap.size]? = some o
    simp
  have hrow : ∀ cap, (bytesRow s cap)[j]? = some (.int .u8 (bt s j)) := fun cap => by
    unfold bytesRow bt
    have hj' : j < s.data.size := by have : s.data.size = 32 := hs; omega
    rw [Array.getElem?_append_left (by rw [Array.size_map]; exact hj'), Array.getElem?_map, Array.getElem?_eq_getElem hj']
    rfl
  have hsz : ∀ cap, 32 ≤ (bytesRow s cap).size := fun cap => by
    unfold bytesRow
    rw [Array.size_append, Array.size_map]
    have : s.data.size = 32 := hs
    omega
  constructor
  · unfold World.cell?
    simp only [hh]
    exact hrow _
  · unfold World.frozen?
    simp only [hh]
    have := hsz (grownCap W 32 0 5)
    rw [Bool.and_eq_false_iff]
    left
    simp
    omega
set_option maxRecDepth 100000 in
set_option maxHeartbeats 2000000 in
theorem fromLittle_ok (s : ByteArray) (hs : s.size = 32) (R : Int) (FB : ∀ W, Calls Try.prog 10 #[.string (mkS (tnL s))] W fun e w' => e = .returned (.tuple #[nv R, .int .i64 0]) ∧ Below W.heap.size W w') (w : World) :
    Calls Try.prog 12 #[.string s] w fun e w' => e = .returned (.tuple #[nv R, .int .i64 0]) ∧ Below w.heap.size w w' := by
  have LE := fun W => lengthError_any s 32 (by rw [hs]; decide) W
  have le0 : lenE (s.size : Int) 32 = 0 := by rw [hs]; decide
  rw [le0] at LE
  obtain ⟨cap, o, cv, hA⟩ := toBytes s hs (w.alloc (.cells #[.int .u64 0, .int .u64 0, .int .u64 0, .int .u64 0] 24))
  rw [World.size_alloc] at cv hA
  have HA : Hid (Arr ((w.alloc (.cells #[.int .u64 0, .int .u64 0, .int .u64 0, .int .u64 0] 24)).drew.alloc o) (w.heap.size + 1) 32 (fun m => .int .u8 (bt s m))) := hA
  clear hA hs le0
  generalize hT : mkS (tnL s) = T at FB
  have HT : Hid (mkS (tnL s) = T) := hT
  clear hT
  go_enter Try.func12, Try.ntmps12
  go_wp2_with (go_at_call 48; refine (LE _).mono ?_; rintro e w1 ⟨rfl, rfl⟩)
  refine (reverse_any (w.heap.size + 1) cap (bt s) _ HA.out).mono ?_
  rintro e w2 ⟨⟨v, rfl⟩, hb2, hs2, hA2⟩
  have cv2 := convN w2 (w.heap.size + 1) cap (tnL s) (by simp [tnL]) (by intro j hj; rw [hA2.c j hj, List.getD, tnL_at s j hj]; rfl)
  rw [HT.out] at cv2
  have Z2 : Arr w2 w.heap.size 4 (fun _ => .int .u64 0) := (Arr.mk4 (w := (w.alloc (.cells #[.int .u64 0, .int .u64 0, .int .u64 0, .int .u64 0] 24)).drew.alloc o) (b := w.heap.size) (f := fun _ => .int .u64 0) (by simp [go_sem]) (by simp [go_sem]) (by simp [go_sem]) (by simp [go_sem]) (by simp [go_sem]) (by simp [go_sem]) (by simp [go_sem]) (by simp [go_sem])).below hb2 (by omega)
  have hB2 : Below w.heap.size w w2 := Below.trans (by go_grown) (hb2.mono (by omega))
  have s2 : w.heap.size < w2.heap.size := by have := hB2.size; simp at hs2; omega
  clear hA2 hb2 HA HT cv LE
  go_wp2_with fail
  refine (FB _).mono ?_
  rintro e w3 ⟨rfl, hb3⟩
  have Z3 := Z2.below hb3 s2
  have hB3 : Below w.heap.size w w3 := hB2.trans (hb3.mono hB2.size)
  have r0 := Z3.c
  have z0 := Z3.z
  clear hb3 Z2 Z3 FB cv2
  go_wp2_with fail
  refine bodyPost_ret (v := .tuple #[nv R, .int .i64 0]) (by simp [results, Try.results12, go_sem, r0]) rfl ⟨rfl, ?_⟩
  go_grown
end Go.Proofs.Ytpigofooblmdhaa
