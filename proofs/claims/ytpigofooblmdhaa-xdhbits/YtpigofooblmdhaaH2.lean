/- PROVED: the function pendulumlaw03.XdhBits answers true for every input, and each argument reads behind the call as it read before; no condition. -/
import Derived.Laws.Concat
import Derived.Laws.AppendOwn
import Derived.Test.YtpigofooblmdhaaH1
import Derived.Test.YtpigofooblmdhaaN19
import Derived.Laws.MathBits
import Derived.Laws.BitsAllLaws
import Derived.Test.YtpigofooblmdhaaX3
import Derived.Test.YtpigofooblmdhaaX4
import Derived.Test.YtpigofooblmdhaaA5
import Derived.Test.YtpigofooblmdhaaF0
/- What the reference's turned answers. -/
set_option linter.all false
set_option maxRecDepth 100000
namespace Go.Proofs.Ytpigofooblmdhaa
open Go.RowKit
theorem madeN (n : Nat) (hn : (n : Int) ≤ 281474976710656) : ∃ C : Array Value, (∀ j, j < n → C[j]? = some (.int .u8 0)) ∧ ∀ W : World, (Instr.makeSlice 43 (.int .i64 (n : Int)) (.int .i64 (n : Int))).run Try.prog W = .ok (.slice (some ⟨W.heap.size, 0, none⟩) n n) (W.alloc (.cells C 5)) := by
  obtain ⟨i0, hi, hz0, hz1, hz2⟩ := info_parts Try.info5
  refine ⟨madeCells (Value.int .u8 0).cells (n * 1), ?_, fun W => ?_⟩
  · intro j hj
    simp only [madeCells, Value.cells]
    rw [Array.getElem?_map, Array.getElem?_range, if_pos (by omega)]
    simp [Nat.mod_one]
  · have := run_make (P := Try.prog) W 43 5 i0 (.int .u8 0) Try.underlying43 hi hz0 .i64 .i64 n n (by omega) (by omega) (by rw [hz2]; omega) (by omega)
    rw [hz1] at this
    exact this
theorem convG (W : World) (g n : Nat) (ns : List Int) (hn : ns.length = n) (hc : ∀ j, j < n → W.cell? ⟨g, j, none⟩ = some (.int .u8 (ns.getD j 0))) :
    (convert 43 9 (.slice (some ⟨g, 0, none⟩) n n)).run Try.prog W = .ok (.string (mkS ns)) W := by
  rw [run_convert_bytes_string W 43 9 5 _ n n Try.underlying43 Try.underlying5 Try.underlying9]
  refine run_bytesToString W ⟨g, 0, none⟩ n n ns ?_
  have := run_loadCells_list (P := Try.prog) W ⟨g, 0, none⟩ (ns.map (Value.int .u8)) (by
    intro j v hv
    rw [Addr.add_mid, Nat.zero_add]
    rw [List.getElem?_map] at hv
    obtain ⟨m, hm, rfl⟩ := Option.map_eq_some_iff.1 hv
    have hj : j < n := by rw [← hn]; exact (List.getElem?_eq_some_iff.1 hm).1
    rw [hc j hj, List.getD, hm]; rfl)
  rw [List.length_map, hn] at this
  exact this
/-- A text's bytes from the last to the first. -/
def rvL (s : ByteArray) : List Int := (List.range s.size).map fun j => bt s (s.size - 1 - j)
theorem rvL_at (s : ByteArray) (j : Nat) (hj : j < s.size) : (rvL s)[j]? = some (bt s (s.size - 1 - j)) := by simp [rvL, hj]
set_option maxRecDepth 100000 in
set_option maxHeartbeats 4000000 in
theorem turned_core (s : ByteArray) (n : Nat) (hsn : s.size = n) (hn : (n : Int) ≤ 281474976710656) (C : Array Value) (hC : Hid (∀ j, j < n → C[j]? = some (.int .u8 0))) (mk : ∀ W : World, (Instr.makeSlice 43 (.int .i64 (n : Int)) (.int .i64 (n : Int))).run Try.prog W = .ok (.slice (some ⟨W.heap.size, 0, none⟩) n n) (W.alloc (.cells C 5))) (w : World) :
    Calls Try.prog 53 #[.string s] w fun e w' => e = .returned (.string (mkS (rvL s))) ∧ Below w.heap.size w w' := by
  go_enter Try.func53, Try.ntmps53
  go_wp2_with fail
  go_loopw [4] (fun i wr => ∃ k : Nat, k ≤ n ∧ i = .int .i64 k ∧ Below w.heap.size w wr ∧ Arr wr w.heap.size n (fun j => .int .u8 (if j < k then bt s (n - 1 - j) else 0)))
    (fun i _ => n - (intOf i).toNat)
  case atStart =>
    refine ⟨0, by omega, rfl, by go_grown, ?_⟩
    exact (Arr.new _ _ _ _ (by simp) _ n hC.out).congr (by intro j hj; rw [if_neg (by omega)])
  case round =>
    clear mk hC
    obtain ⟨k, hk, rfl, hB, hA⟩ := hrel
    by_cases hlt : k < n
    · have k0 : (0 : Int) ≤ (k : Int) := by omega
      have kn : (k : Int) < (n : Int) := by omega
      obtain ⟨q, hq⟩ : ∃ q : Nat, (n : Int) - 1 - (k : Int) = (q : Int) := ⟨n - 1 - k, by omega⟩
      have qe : q = n - 1 - k := by omega
      have I := fun W => idxS s q (by omega) W
      have ra := hA.c k hlt
      have za := hA.z k hlt
      have st : Arr (wr.setCell ⟨w.heap.size, k, none⟩ (.int .u8 (bt s q))) w.heap.size n (fun j => .int .u8 (if j < k + 1 then bt s (n - 1 - j) else 0)) := by
        refine (hA.set k hlt _).congr ?_
        intro j hj
        by_cases h : j = k
        · subst h; rw [if_pos rfl, if_pos (by omega), qe]
        · rw [if_neg h]
          by_cases h2 : j < k
          · rw [if_pos h2, if_pos (by omega)]
          · rw [if_neg h2, if_neg (by omega)]
      have sB : Below w.heap.size w (wr.setCell ⟨w.heap.size, k, none⟩ (.int .u8 (bt s q))) := hB.setCell (by show _ ≤ w.heap.size; omega) _
      clear qe hA hB
      go_wp2_with fail
      exact ⟨⟨k + 1, by omega, by go_num, sB, st⟩, by simp [intOf]; omega⟩
    · have en : k = n := by omega
      subst en
      have cv := convG wr w.heap.size k (rvL s) (by simp [rvL, hsn]) (by intro j hj; rw [hA.c j hj, if_pos hj, List.getD, rvL_at s j (by omega), hsn]; rfl)
      clear hA
      generalize hT : mkS (rvL s) = T at cv
      have HT : Hid (mkS (rvL s) = T) := hT
      clear hT
      go_wp2_with fail
      go_ret
      exact ⟨by rw [HT.out]; rfl, hB⟩
theorem turned_any (s : ByteArray) (hn : (s.size : Int) ≤ 281474976710656) (w : World) :
    Calls Try.prog 53 #[.string s] w fun e w' => e = .returned (.string (mkS (rvL s))) ∧ Below w.heap.size w w' := by
  obtain ⟨C, hC, mk⟩ := madeN s.size hn
  exact turned_core s s.size rfl hn C hC mk w
theorem rv_lt (N : Int) : rvL (mkS (ltL N)) = bgL N := by
  have sz : (mkS (ltL N)).size = 32 := by rw [mkS_size]; simp [ltL]
  have at1 := rvL_at (mkS (ltL N))
  have b1 := fun i (hi : i < 32) => mkS_bt (ltL N) i _ (ltL_at N i hi) (byt_bd N (31 - i)).1 (byt_bd N (31 - i)).2
  have len : (rvL (mkS (ltL N))).length = 32 := by unfold rvL; rw [List.length_map, List.length_range, sz]
  generalize mkS (ltL N) = K at *
  apply List.ext_getElem?
  intro i
  by_cases hi : i < 32
  · rw [at1 i (by rw [sz]; exact hi), bgL_at N i hi, sz, show 32 - 1 - i = 31 - i by omega, b1 (31 - i) (by omega), show 31 - (31 - i) = i by omega]
  · rw [List.getElem?_eq_none (by rw [len]; omega), List.getElem?_eq_none (by simp [bgL]; omega)]
set_option maxHeartbeats 1000000 in
theorem refBig_core (N : Int) (K G : ByteArray) (C19 : ∀ W, Calls Try.prog 19 #[nv N] W fun e w' => e = .returned (.string K) ∧ Below W.heap.size W w') (C40 : ∀ W, Calls Try.prog 53 #[.string K] W fun e w' => e = .returned (.string G) ∧ Below W.heap.size W w') (w : World) :
    Calls Try.prog 17 #[nv N] w fun e w' => e = .returned (.string G) ∧ Below w.heap.size w w' := by
  go_enter Try.func17, Try.ntmps17
  go_wp2_with fail
  refine (C19 _).mono ?_
  rintro e w1 ⟨rfl, hb1⟩
  have hB1 : Below w.heap.size w w1 := Below.trans (by go_grown) (hb1.mono (by go_size))
  clear hb1
  go_wp2_with fail
  refine (C40 _).mono ?_
  rintro e w2 ⟨rfl, hb2⟩
  have hB2 := hB1.trans (hb2.mono hB1.size)
  clear hb2 hB1
  go_wp2_with fail
  go_ret
  exact ⟨rfl, hB2⟩
theorem refBig_any (N : Int) (w : World) : Calls Try.prog 17 #[nv N] w fun e w' => e = .returned (.string (mkS (bgL N))) ∧ Below w.heap.size w w' := by
  refine refBig_core N (mkS (ltL N)) (mkS (bgL N)) (fun W => refLittle_any N W) (fun W => ?_) w
  have sz : (mkS (ltL N)).size = 32 := by rw [mkS_size]; simp [ltL]
  have := turned_any (mkS (ltL N)) (by rw [sz]; omega) W
  rw [rv_lt] at this
  exact this
end Go.Proofs.Ytpigofooblmdhaa
/- What the reference's FromLittle answers. -/
set_option linter.all false
set_option maxRecDepth 100000
namespace Go.Proofs.Ytpigofooblmdhaa
open Go.RowKit
theorem pn_first (wd : Nat) (g : Nat → Int) (b : Nat) : pn wd g (b + 1) = g 0 * 2 ^ (wd * b) + pn wd (sh g 1) b := by
  have := pn_add wd g 1 b
  rw [Nat.add_comm 1 b] at this
  rw [this]
  show (0 * 2 ^ wd + g 0) * _ + _ = _
  rw [Int.zero_mul, Int.zero_add]
/-- Part j when k bytes have come, the lowest first. -/
def pl (f : Nat → Int) : Nat → Nat → Int
  | 0, _ => 0
  | k + 1, j => if j = k / 8 then pl f k j + f k * 2 ^ (8 * (k % 8)) else pl f k j
theorem pl_is (f : Nat → Int) : ∀ k j, pl f k j = if k ≤ 8 * j then 0 else if k ≤ 8 * j + 8 then pn 8 (fun i => f (k - 1 - i)) (k - 8 * j) else pn 8 (fun i => f (8 * j + 7 - i)) 8 := by
  intro k
  induction k with
  | zero => intro j; simp [pl]
  | succ k ih =>
    intro j
    have hi := ih j
    show (if j = k / 8 then pl f k j + f k * 2 ^ (8 * (k % 8)) else pl f k j) = _
    by_cases c : j = k / 8
    · rw [if_pos c, hi, if_neg (show ¬ k + 1 ≤ 8 * j by omega), if_pos (show k + 1 ≤ 8 * j + 8 by omega)]
      have e : k + 1 - 8 * j = (k - 8 * j) + 1 := by omega
      rw [e, pn_first 8 (fun i => f (k + 1 - 1 - i)) (k - 8 * j)]
      have e2 : (fun i => f (k + 1 - 1 - i)) 0 = f k := by simp
      have e3 : sh (fun i => f (k + 1 - 1 - i)) 1 = fun i => f (k - 1 - i) := by funext i; unfold sh; simp only; congr 1; omega
      rw [e3, show k - 8 * j = k % 8 by omega]
      show _ = f (k + 1 - 1 - 0) * _ + _
      rw [show k + 1 - 1 - 0 = k by omega]
      by_cases c2 : k ≤ 8 * j
      · rw [if_pos c2, show k % 8 = 0 by omega]
        simp [pn]
      · rw [if_neg c2, if_pos (show k ≤ 8 * j + 8 by omega), Int.add_comm]
    · rw [if_neg c, hi]
      by_cases c2 : k + 1 ≤ 8 * j
      · rw [if_pos c2, if_pos (by omega)]
      · rw [if_neg c2]
        by_cases c3 : k ≤ 8 * j
        · omega
        · rw [if_neg c3, if_neg (show ¬ k + 1 ≤ 8 * j + 8 by omega)]
          by_cases c4 : k ≤ 8 * j + 8
          · have ek : k = 8 * j + 8 := by omega
            rw [if_pos c4, ek, show 8 * j + 8 - 8 * j = 8 by omega]
            rfl
          · rw [if_neg c4]
theorem pl_lim (f : Nat → Int) (hf : ∀ i, 0 ≤ f i ∧ f i < 2 ^ 8) (j : Nat) (hj : j < 4) : pl f 32 j = lim (pn 8 (fun i => f (31 - i)) 32) j := by
  have h := pb_lim 8 8 (fun i => f (31 - i)) (by omega) (by omega) (fun i => hf _) j hj
  rw [show (4 * 8 : Nat) = 32 from rfl] at h
  have e : j = 0 ∨ j = 1 ∨ j = 2 ∨ j = 3 := by omega
  rw [← h, pb_is 8 8 _ (by omega) 32 j hj (by omega), pl_is]
  rcases e with rfl | rfl | rfl | rfl <;> rfl
theorem pl_bd (f : Nat → Int) (hf : ∀ i, 0 ≤ f i ∧ f i < 2 ^ 8) (k : Nat) : 0 ≤ pl f k (k / 8) ∧ pl f k (k / 8) < 2 ^ (8 * (k % 8)) := by
  rw [pl_is]
  by_cases c : k ≤ 8 * (k / 8)
  · rw [if_pos c]; exact ⟨Int.le_refl _, Int.pow_pos (by omega)⟩
  · rw [if_neg c, if_pos (show k ≤ 8 * (k / 8) + 8 by omega), show k - 8 * (k / 8) = k % 8 by omega]
    exact ⟨pn_nn 8 _ (fun i => (hf _).1) _, pn_lt 8 _ (fun i => hf _) _⟩
theorem or_up (x d : Int) (r : Nat) (hr : r < 8) (x0 : 0 ≤ x) (x1 : x < 2 ^ (8 * r)) (d0 : 0 ≤ d) (d1 : d < 256) :
    bits .or .u64 x (IntKind.u64.wrap (d * 2 ^ (8 * r))) = x + d * 2 ^ (8 * r) := by
  by_cases c : r = 0
  · subst c
    have hx : x = 0 := by simp at x1; omega
    subst hx
    have w : IntKind.u64.wrap (d * 2 ^ (8 * 0)) = d := by rw [IntKind.wrap_u64]; simp; omega
    rw [w]
    have b := bits_or_u64_nat 0 d.toNat (by omega) (by omega)
    rw [Int.toNat_of_nonneg d0] at b
    have e : bits .or .u64 0 d = d := by
      have : ((0 : Nat) : Int) = 0 := rfl
      rw [← this, b]
      simp; omega
    rw [e]; simp
  · have p : (0 : Int) < 2 ^ (64 - 8 * r) := Int.pow_pos (by omega)
    have sp : (2 : Int) ^ (8 * r) * 2 ^ (64 - 8 * r) = 18446744073709551616 := pow_split (8 * r) (by omega)
    have h0 : 0 ≤ x * 2 ^ (64 - 8 * r) := Int.mul_nonneg x0 (Int.le_of_lt p)
    have h1 : x * 2 ^ (64 - 8 * r) < 18446744073709551616 := by rw [← sp]; exact Int.mul_lt_mul_of_pos_right x1 p
    have j := or_join (x * 2 ^ (64 - 8 * r)) d (64 - 8 * r) (by omega) h0 h1 d0
    rw [Int.mul_ediv_cancel _ (Int.ne_of_gt p), show 64 - (64 - 8 * r) = 8 * r by omega] at j
    have hd : d % 2 ^ (64 - 8 * r) = d := by
      refine Int.emod_eq_of_lt d0 ?_
      have : (2 : Nat) ^ 8 ≤ 2 ^ (64 - 8 * r) := Nat.pow_le_pow_right (by omega) (by omega)
      have q : ((2 ^ 8 : Nat) : Int) ≤ ((2 ^ (64 - 8 * r) : Nat) : Int) := Int.ofNat_le.2 this
      have e1 : ((2 ^ 8 : Nat) : Int) = 256 := rfl
      have e2 : ((2 ^ (64 - 8 * r) : Nat) : Int) = 2 ^ (64 - 8 * r) := by push_cast; rfl
      omega
    rw [hd] at j
    exact j
set_option maxRecDepth 100000 in
set_option maxHeartbeats 4000000 in
theorem refFromLittle_ok (s : ByteArray) (hs : s.size = 32) (w : World) :
    Calls Try.prog 13 #[.string s] w fun e w' => e = .returned (.tuple #[.agg #[.int .u64 (pl (bt s) 32 0), .int .u64 (pl (bt s) 32 1), .int .u64 (pl (bt s) 32 2), .int .u64 (pl (bt s) 32 3)], .int .i64 0]) ∧ Below w.heap.size w w' := by
  have LE := fun W => sized_any s 32 (by rw [hs]; decide) W
  have le0 : lenE (s.size : Int) 32 = 0 := by rw [hs]; decide
  rw [le0] at LE
  go_enter Try.func13, Try.ntmps13
  go_wp2_with (go_at_call 51; refine (LE _).mono ?_; rintro e w1 ⟨rfl, rfl⟩)
  go_loopw [6] (fun i wr => ∃ k : Nat, k ≤ 32 ∧ i = .int .i64 k ∧ Below w.heap.size w wr ∧ Arr wr w.heap.size 4 (fun _ => .int .u64 0) ∧ Arr wr (w.heap.size + 1) 4 (fun j => .int .u64 (pl (bt s) k j)))
    (fun i _ => 32 - (intOf i).toNat)
  case atStart => exact ⟨0, by omega, rfl, by go_grown, Arr.mk4 (by simp [go_sem]) (by simp [go_sem]) (by simp [go_sem]) (by simp [go_sem]) (by simp [go_sem]) (by simp [go_sem]) (by simp [go_sem]) (by simp [go_sem]), Arr.mk4 (by simp [go_sem, pl]) (by simp [go_sem, pl]) (by simp [go_sem, pl]) (by simp [go_sem, pl]) (by simp [go_sem]) (by simp [go_sem]) (by simp [go_sem]) (by simp [go_sem])⟩
  case round =>
    clear LE le0
    obtain ⟨k, hk, rfl, hB, hZ, hA⟩ := hrel
    by_cases hlt : k < 32
    · have k0 : (0 : Int) ≤ (k : Int) := by omega
      have k32 : (k : Int) < 32 := by omega
      obtain ⟨q, r, hq, hr, qe, re⟩ : ∃ q r : Nat, (k : Int) / 8 = (q : Int) ∧ (k : Int) % 8 = (r : Int) ∧ q = k / 8 ∧ r = k % 8 := ⟨k / 8, k % 8, by omega, by omega, rfl, rfl⟩
      have q0 : (0 : Int) ≤ (q : Int) := by omega
      have q4 : (q : Int) < 4 := by omega
      have r0 : (0 : Int) ≤ (r : Int) := by omega
      have r8 : (r : Int) < 8 := by omega
      have bb := bt_bd s k
      have I := fun W => idxS s k (by omega) W
      have pbd := pl_bd (bt s) (bt_8 s) k
      rw [← qe, ← re] at pbd
      have ou := or_up (pl (bt s) k q) (bt s k) r (by omega) pbd.1 pbd.2 bb.1 bb.2
      have ra := hA.c q (by omega)
      have za := hA.z q (by omega)
      have tn : (8 * (r : Int)).toNat = 8 * r := by omega
      have st : Arr ((wr.setCell ⟨w.heap.size + 1, q, none⟩ (.int .u64 (pl (bt s) k q + bt s k * 2 ^ (8 * r)))).drew) (w.heap.size + 1) 4 (fun j => .int .u64 (pl (bt s) (k + 1) j)) := by
        refine ((hA.set q (by omega) _).congr ?_).drew
        intro j hj
        show _ = Value.int .u64 (if j = k / 8 then pl (bt s) k j + bt s k * 2 ^ (8 * (k % 8)) else pl (bt s) k j)
        by_cases h : j = q
        · subst h; rw [if_pos rfl, if_pos qe, re]
        · rw [if_neg h, if_neg (by omega)]
      have sz : Arr ((wr.setCell ⟨w.heap.size + 1, q, none⟩ (.int .u64 (pl (bt s) k q + bt s k * 2 ^ (8 * r)))).drew) w.heap.size 4 (fun _ => .int .u64 0) := (hZ.other (by omega) _).drew
      have sB : Below w.heap.size w ((wr.setCell ⟨w.heap.size + 1, q, none⟩ (.int .u64 (pl (bt s) k q + bt s k * 2 ^ (8 * r)))).drew) := (hB.setCell (by show _ ≤ w.heap.size + 1; omega) _).drew
      clear qe re pbd hA hZ hB
      go_wp2_with fail
      go_region
      go_wp2_with fail
      exact ⟨⟨k + 1, by omega, by go_num, sB, sz, st⟩, by simp [intOf]; omega⟩
    · have e32 : k = 32 := by omega
      subst e32
      have r1 := hA.c
      have r0 := hZ.c
      have z0 := hZ.z
      clear hA hZ
      go_wp2_with fail
      refine bodyPost_ret (v := .tuple #[.agg #[.int .u64 (pl (bt s) 32 0), .int .u64 (pl (bt s) 32 1), .int .u64 (pl (bt s) 32 2), .int .u64 (pl (bt s) 32 3)], .int .i64 0]) (by simp [results, Try.results13, go_sem, r0]) rfl ⟨rfl, ?_⟩
      go_grown
end Go.Proofs.Ytpigofooblmdhaa
/- There and back, as plain numbers and texts. -/
set_option linter.all false
set_option maxRecDepth 100000
namespace Go.Proofs.Ytpigofooblmdhaa
open Go.RowKit
theorem pn_congr (wd : Nat) (f g : Nat → Int) : ∀ k, (∀ i, i < k → f i = g i) → pn wd f k = pn wd g k := by
  intro k
  induction k with
  | zero => intro _; rfl
  | succ k ih => intro h; show pn wd f k * _ + f k = pn wd g k * _ + g k; rw [ih (fun i hi => h i (by omega)), h k (by omega)]
theorem pn_byt (N : Int) (h0 : 0 ≤ N) (h1 : N < top256) : ∀ k, k ≤ 32 → pn 8 (byt N) k = N / 2 ^ (8 * (32 - k)) := by
  intro k
  induction k with
  | zero =>
    intro _
    show 0 = _
    rw [show 8 * (32 - 0) = 256 from rfl, ← top_pow]
    exact (Int.ediv_eq_zero_of_lt h0 h1).symm
  | succ k ih =>
    intro hk
    show pn 8 (byt N) k * 2 ^ 8 + byt N k = _
    rw [ih (by omega)]
    unfold byt
    rw [show 8 * (32 - k) = 8 * (31 - k) + 8 by omega, show 8 * (32 - (k + 1)) = 8 * (31 - k) by omega, Int.pow_add, ← Int.ediv_ediv_of_nonneg (Int.le_of_lt (Int.pow_pos (by omega)))]
    generalize N / 2 ^ (8 * (31 - k)) = x
    rw [show (2 : Int) ^ 8 = 256 by decide]
    omega
theorem pn_all (N : Int) (h0 : 0 ≤ N) (h1 : N < top256) : pn 8 (byt N) 32 = N := by
  rw [pn_byt N h0 h1 32 (Nat.le_refl _)]; simp
/-- The i-th digit of a number. -/
def nb (N : Int) (i : Nat) : Int := if i % 2 = 0 then byt N (i / 2) / 16 else byt N (i / 2) % 16
theorem nb_bd (N : Int) (i : Nat) : 0 ≤ nb N i ∧ nb N i < 16 := by
  have := byt_bd N (i / 2)
  unfold nb; split <;> omega
theorem tx_nb (N : Int) (i : Nat) : tx N i = hexc (nb N i) := by unfold tx nb; split <;> rfl
theorem pn_nb (N : Int) : ∀ k, pn 4 (nb N) (2 * k) = pn 8 (byt N) k := by
  intro k
  induction k with
  | zero => rfl
  | succ k ih =>
    show (pn 4 (nb N) (2 * k) * 2 ^ 4 + nb N (2 * k)) * 2 ^ 4 + nb N (2 * k + 1) = pn 8 (byt N) k * 2 ^ 8 + byt N k
    have e1 : nb N (2 * k) = byt N k / 16 := by unfold nb; rw [if_pos (by omega), show 2 * k / 2 = k by omega]
    have e2 : nb N (2 * k + 1) = byt N k % 16 := by unfold nb; rw [if_neg (by omega), show (2 * k + 1) / 2 = k by omega]
    rw [ih, e1, e2, show (2 : Int) ^ 4 = 16 by decide, show (2 : Int) ^ 8 = 256 by decide]
    omega
theorem hex_dg (d : Int) (h0 : 0 ≤ d) (h1 : d < 16) : dgo (hexc d) = true ∧ dgv (hexc d) = d := by
  have h : d = 0 ∨ d = 1 ∨ d = 2 ∨ d = 3 ∨ d = 4 ∨ d = 5 ∨ d = 6 ∨ d = 7 ∨ d = 8 ∨ d = 9 ∨ d = 10 ∨ d = 11 ∨ d = 12 ∨ d = 13 ∨ d = 14 ∨ d = 15 := by omega
  rcases h with h | h | h | h | h | h | h | h | h | h | h | h | h | h | h | h <;> (subst h; decide)
theorem dg_hex (c : Int) (h : dgo c = true) : hexc (dgv c) = c := by
  unfold dgo at h
  simp only [Bool.or_eq_true, decide_eq_true_eq] at h
  unfold hexc dgv
  rcases h with h | h
  · rw [if_pos h, if_pos (by omega)]; omega
  · rw [if_neg (by omega), if_pos h, if_neg (by omega)]; omega
theorem txS_mk (N : Int) : txS N = mkS (txL N) := rfl
theorem txL_at (N : Int) (i : Nat) (hi : i < 64) : (txL N)[i]? = some (tx N i) := by simp [txL, hi]
theorem bt_tx (N : Int) (i : Nat) (hi : i < 64) : bt (txS N) i = tx N i := by
  have b := nb_bd N i
  have c := hexc_bd (nb N i) b.1 b.2
  rw [txS_mk]
  exact mkS_bt _ i _ (txL_at N i hi) (by rw [tx_nb]; exact c.1) (by rw [tx_nb]; exact c.2)
theorem text_alld (N : Int) : alld (txS N) 64 := fun i hi => by
  have b := nb_bd N i
  rw [bt_tx N i hi, tx_nb]; exact (hex_dg _ b.1 b.2).1
theorem text_back (N : Int) (h0 : 0 ≤ N) (h1 : N < top256) : pn 4 (dg (txS N)) 64 = N := by
  have e : pn 4 (dg (txS N)) 64 = pn 4 (nb N) 64 := pn_congr 4 _ _ 64 fun i hi => by
    have b := nb_bd N i
    unfold dg
    rw [bt_tx N i hi, tx_nb]; exact (hex_dg _ b.1 b.2).2
  rw [e, show (64 : Nat) = 2 * 32 from rfl, pn_nb, pn_all N h0 h1]
theorem big_back (N : Int) (h0 : 0 ≤ N) (h1 : N < top256) : pn 8 (bt (mkS (bgL N))) 32 = N := by
  have e : pn 8 (bt (mkS (bgL N))) 32 = pn 8 (byt N) 32 := pn_congr 8 _ _ 32 fun i hi => by
    have b := byt_bd N i
    exact mkS_bt _ i _ (bgL_at N i hi) b.1 b.2
  rw [e, pn_all N h0 h1]
/-- The digits of a number that digits make are those. -/
theorem nb_pn (f : Nat → Int) (hf : ∀ i, 0 ≤ f i ∧ f i < 2 ^ 4) (i : Nat) (hi : i < 64) : nb (pn 4 f 64) i = f i := by
  have key : pn 4 f 64 / 2 ^ (4 * (63 - i)) % 16 = f i := by
    have a := pn_add 4 f (i + 1) (63 - i)
    rw [show i + 1 + (63 - i) = 64 by omega] at a
    have b0 := pn_nn 4 (sh f (i + 1)) (fun j => (hf _).1) (63 - i)
    have b1 := pn_lt 4 (sh f (i + 1)) (fun j => hf _) (63 - i)
    have pp : (0 : Int) < 2 ^ (4 * (63 - i)) := Int.pow_pos (by omega)
    rw [a, Int.add_comm, Int.add_mul_ediv_right _ _ (Int.ne_of_gt pp), Int.ediv_eq_zero_of_lt b0 b1, Int.zero_add]
    show (pn 4 f i * 2 ^ 4 + f i) % 16 = f i
    have := hf i
    simp at this ⊢
    omega
  unfold nb byt
  split
  · rename_i h
    rw [show 8 * (31 - i / 2) = 4 * (62 - i) by omega]
    rw [show 4 * (63 - i) = 4 * (62 - i) + 4 by omega, Int.pow_add, ← Int.ediv_ediv_of_nonneg (Int.le_of_lt (Int.pow_pos (by omega)))] at key
    rw [show (2 : Int) ^ 4 = 16 by decide] at key
    generalize pn 4 f 64 / 2 ^ (4 * (62 - i)) = x at *
    omega
  · rename_i h
    rw [show 8 * (31 - i / 2) = 4 * (63 - i) by omega]
    generalize pn 4 f 64 / 2 ^ (4 * (63 - i)) = x at *
    omega
theorem parse_back (s : ByteArray) (hs : s.size = 64) (hall : alld s 64) : txS (pn 4 (dg s) 64) = s := by
  have e : ∀ i, i < 64 → bt (txS (pn 4 (dg s) 64)) i = bt s i := fun i hi => by
    rw [bt_tx _ i hi, tx_nb, nb_pn (dg s) (dg_4 s) i hi]
    exact dg_hex _ (hall i hi)
  have sz : (txS (pn 4 (dg s) 64)).size = 64 := by rw [txS_mk, mkS_size]; simp [txL]
  have ext : ∀ a b : ByteArray, a.size = 64 → b.size = 64 → (∀ i, i < 64 → bt a i = bt b i) → a = b := fun a b ha hb h => by
    have : a.data = b.data := by
      apply Array.ext
      · have h1 : a.data.size = 64 := ha
        have h2 : b.data.size = 64 := hb
        omega
      · intro i h1 h2
        have hi : i < 64 := by have : a.data.size = 64 := ha; omega
        have := h i hi
        unfold bt at this
        rw [Array.getElem?_eq_getElem h1, Array.getElem?_eq_getElem h2] at this
        simp at this
        exact UInt8.toNat_inj.1 (by omega)
    cases a; cases b; simp at this; rw [this]
  exact ext _ _ sz hs e
end Go.Proofs.Ytpigofooblmdhaa
/- What the reference's FromLittle and FromBig answer, as whole numbers. -/
set_option linter.all false
set_option maxRecDepth 100000
namespace Go.Proofs.Ytpigofooblmdhaa
open Go.RowKit
theorem nv_pl (f : Nat → Int) (hf : ∀ i, 0 ≤ f i ∧ f i < 2 ^ 8) :
    (.agg #[.int .u64 (pl f 32 0), .int .u64 (pl f 32 1), .int .u64 (pl f 32 2), .int .u64 (pl f 32 3)] : Value) = nv (pn 8 (fun i => f (31 - i)) 32) := by
  simp only [nv, pl_lim f hf 0 (by omega), pl_lim f hf 1 (by omega), pl_lim f hf 2 (by omega), pl_lim f hf 3 (by omega)]
theorem refFromLittle_yes (s : ByteArray) (hs : s.size = 32) (w : World) :
    Calls Try.prog 13 #[.string s] w fun e w' => e = .returned (.tuple #[nv (pn 8 (fun i => bt s (31 - i)) 32), .int .i64 0]) ∧ Below w.heap.size w w' := by
  have := refFromLittle_ok s hs w
  rw [nv_pl (bt s) (bt_8 s)] at this
  exact this
set_option maxHeartbeats 1000000 in
theorem refFromLittle_no (s : ByteArray) (hs : s.size ≤ maxLen) (hn : s.size ≠ 32) (w : World) :
    Calls Try.prog 13 #[.string s] w fun e w' => e = .returned (.tuple #[.agg #[.int .u64 0, .int .u64 0, .int .u64 0, .int .u64 0], .int .i64 (lenE s.size 32)]) ∧ Below w.heap.size w w' := by
  have LE := fun W => sized_any s 32 hs W
  have ne : ¬ lenE (s.size : Int) 32 = 0 := by unfold lenE; split <;> (try split) <;> omega
  generalize lenE (s.size : Int) 32 = E at *
  have neb : (E == 0) = false := by simp [ne]
  go_enter Try.func13, Try.ntmps13
  go_wp2_with (go_at_call 51; refine (LE _).mono ?_; rintro e w1 ⟨rfl, rfl⟩)
  go_loopw [6] (fun i wr => i = .int .i64 0 ∧ Below w.heap.size w wr ∧ Arr wr w.heap.size 4 (fun _ => .int .u64 0) ∧ Arr wr (w.heap.size + 1) 4 (fun _ => .int .u64 0))
    (fun i _ => 0)
  case atStart => exact ⟨rfl, by go_grown, Arr.mk4 (by simp [go_sem]) (by simp [go_sem]) (by simp [go_sem]) (by simp [go_sem]) (by simp [go_sem]) (by simp [go_sem]) (by simp [go_sem]) (by simp [go_sem]), Arr.mk4 (by simp [go_sem]) (by simp [go_sem]) (by simp [go_sem]) (by simp [go_sem]) (by simp [go_sem]) (by simp [go_sem]) (by simp [go_sem]) (by simp [go_sem])⟩
  case round =>
    clear LE
    obtain ⟨rfl, hB, hZ, hA⟩ := hrel
    have r1 := hA.c
    have r0 := hZ.c
    have z0 := hZ.z
    clear hA hZ
    go_wp2_with fail
    refine bodyPost_ret (v := .tuple #[.agg #[.int .u64 0, .int .u64 0, .int .u64 0, .int .u64 0], .int .i64 E]) (by simp [results, Try.results13, go_sem, r0]) rfl ⟨rfl, ?_⟩
    go_grown
set_option maxHeartbeats 1000000 in
theorem refFromBig_core (s : ByteArray) (T : ByteArray) (V : Value) (E : Int) (a0 a1 a2 a3 : Int) (hV : V = .agg #[.int .u64 a0, .int .u64 a1, .int .u64 a2, .int .u64 a3])
    (C40 : ∀ W, Calls Try.prog 53 #[.string s] W fun e w' => e = .returned (.string T) ∧ Below W.heap.size W w')
    (C13 : ∀ W, Calls Try.prog 13 #[.string T] W fun e w' => e = .returned (.tuple #[.agg #[.int .u64 a0, .int .u64 a1, .int .u64 a2, .int .u64 a3], .int .i64 E]) ∧ Below W.heap.size W w') (w : World) :
    Calls Try.prog 11 #[.string s] w fun e w' => e = .returned (.tuple #[.agg #[.int .u64 a0, .int .u64 a1, .int .u64 a2, .int .u64 a3], .int .i64 E]) ∧ Below w.heap.size w w' := by
  go_enter Try.func11, Try.ntmps11
  go_wp2_with fail
  refine (C40 _).mono ?_
  rintro e w1 ⟨rfl, hb1⟩
  have A1 := (Arr.mk4 (f := fun _ => .int .u64 0) (b := w.heap.size) (by simp [go_sem]) (by simp [go_sem]) (by simp [go_sem]) (by simp [go_sem]) (by simp [go_sem]) (by simp [go_sem]) (by simp [go_sem]) (by simp [go_sem])).below hb1 (by go_size)
  have s1 : w.heap.size < w1.heap.size := by have := hb1.size; simp at this; omega
  have hB1 : Below w.heap.size w w1 := Below.trans (by go_grown) (hb1.mono (by go_size))
  clear hb1
  go_wp2_with fail
  refine (C13 _).mono ?_
  rintro e w2 ⟨rfl, hb2⟩
  have A2 := A1.below hb2 s1
  have hB2 := hB1.trans (hb2.mono hB1.size)
  have r0 := A2.c
  have z0 := A2.z
  clear hb2 A1 A2 hB1
  go_wp2_with fail
  refine bodyPost_ret (v := .tuple #[.agg #[.int .u64 a0, .int .u64 a1, .int .u64 a2, .int .u64 a3], .int .i64 E]) (by simp [results, Try.results11, go_sem, r0]) rfl ⟨rfl, ?_⟩
  go_grown
theorem rv_size (s : ByteArray) : (mkS (rvL s)).size = s.size := by rw [mkS_size]; simp [rvL]
theorem refFromBig_yes (s : ByteArray) (hs : s.size = 32) (w : World) :
    Calls Try.prog 11 #[.string s] w fun e w' => e = .returned (.tuple #[nv (pn 8 (bt s) 32), .int .i64 0]) ∧ Below w.heap.size w w' := by
  refine refFromBig_core s (mkS (rvL s)) _ 0 _ _ _ _ rfl (fun W => turned_any s (by rw [hs]; omega) W) (fun W => ?_) w
  have := refFromLittle_yes (mkS (rvL s)) (by rw [rv_size]; exact hs) W
  have e : pn 8 (fun i => bt (mkS (rvL s)) (31 - i)) 32 = pn 8 (bt s) 32 := pn_congr 8 _ _ 32 fun i hi => by
    have b := bt_bd s (s.size - 1 - (31 - i))
    show bt (mkS (rvL s)) (31 - i) = bt s i
    rw [mkS_bt _ (31 - i) _ (rvL_at s (31 - i) (by omega)) b.1 b.2, hs]
    congr 1; omega
  rw [e] at this
  exact this
theorem refFromBig_no (s : ByteArray) (hm : (s.size : Int) ≤ 281474976710656) (hn : s.size ≠ 32) (w : World) :
    Calls Try.prog 11 #[.string s] w fun e w' => e = .returned (.tuple #[.agg #[.int .u64 0, .int .u64 0, .int .u64 0, .int .u64 0], .int .i64 (lenE s.size 32)]) ∧ Below w.heap.size w w' := by
  refine refFromBig_core s (mkS (rvL s)) _ _ 0 0 0 0 rfl (fun W => turned_any s hm W) (fun W => ?_) w
  have := refFromLittle_no (mkS (rvL s)) (by rw [rv_size]; unfold maxLen; omega) (by rw [rv_size]; exact hn) W
  rw [rv_size] at this
  exact this
end Go.Proofs.Ytpigofooblmdhaa
/- What the reference's Text answers. -/
set_option linter.all false
set_option maxRecDepth 100000
namespace Go.Proofs.Ytpigofooblmdhaa
open Go.RowKit
theorem hex_cut (d : Int) (h0 : 0 ≤ d) (h1 : d < 16) (W : World) : (Instr.slice 9 (.string ⟨#[48, 49, 50, 51, 52, 53, 54, 55, 56, 57, 97, 98, 99, 100, 101, 102]⟩) (some (.int .u8 d)) (some (.int .u8 (d + 1))) none).run Try.prog W = .ok (.string (mkS [hexc d])) W := by
  rw [run_slice_string W 9 _ .u8 .u8 d (d + 1) Try.underlying9 (by omega) (by omega) (by show d + 1 ≤ 16; omega)]
  have h : d = 0 ∨ d = 1 ∨ d = 2 ∨ d = 3 ∨ d = 4 ∨ d = 5 ∨ d = 6 ∨ d = 7 ∨ d = 8 ∨ d = 9 ∨ d = 10 ∨ d = 11 ∨ d = 12 ∨ d = 13 ∨ d = 14 ∨ d = 15 := by omega
  rcases h with h | h | h | h | h | h | h | h | h | h | h | h | h | h | h | h <;> (rw [h]; rfl)
theorem mkS_append (a b : List Int) : mkS a ++ mkS b = mkS (a ++ b) := by
  apply ByteArray.ext
  apply Array.toList_inj.1
  rw [ByteArray.data_append, Array.toList_append, mkS_list, mkS_list, mkS_list, List.map_append]
/-- The first k bytes' signs. -/
def tk (N : Int) (k : Nat) : List Int := (List.range (2 * k)).map (tx N)
theorem tk_next (N : Int) (k : Nat) : mkS (tk N k) ++ mkS [hexc (byt N k / 16)] ++ mkS [hexc (byt N k % 16)] = mkS (tk N (k + 1)) := by
  rw [mkS_append, mkS_append]
  congr 1
  unfold tk
  rw [show 2 * (k + 1) = 2 * k + 1 + 1 by omega, List.range_succ, List.range_succ, List.map_append, List.map_append]
  simp [tx_even, tx_odd]
theorem tk_size (N : Int) (k : Nat) : (mkS (tk N k)).size = 2 * k := by rw [mkS_size]; simp [tk]
theorem adds (a b : ByteArray) (ha : a.size ≤ 100) (hb : b.size ≤ 100) (W : World) : (Op.stringOp .add a b).run Try.prog W = .ok (.string (a ++ b)) W :=
  run_string_add W a b (by omega) (by omega)
set_option maxHeartbeats 1000000 in
theorem refText_core (N : Int) (B : ByteArray) (hz : B.size = 32) (hB : Hid (∀ k, k < 32 → bt B k = byt N k))
    (C17 : ∀ W, Calls Try.prog 17 #[nv N] W fun e w' => e = .returned (.string B) ∧ Below W.heap.size W w') (w : World) :
    Calls Try.prog 15 #[nv N] w fun e w' => e = .returned (.string (mkS (tk N 32))) ∧ Below w.heap.size w w' := by
  go_enter Try.func15, Try.ntmps15
  go_wp2_with fail
  refine (C17 _).mono ?_
  rintro e w1 ⟨rfl, hb1⟩
  have hB1 : Below w.heap.size w w1 := Below.trans (by go_grown) (hb1.mono (by go_size))
  clear hb1 C17
  go_wp2_with fail
  go_loopw [4, 5] (fun s i wr => ∃ k : Nat, k ≤ 32 ∧ i = .int .i64 k ∧ s = .string (mkS (tk N k)) ∧ Below w.heap.size w wr)
    (fun _ i _ => 32 - (intOf i).toNat)
  case atStart => exact ⟨0, by omega, rfl, rfl, hB1⟩
  case round =>
    clear hB1
    obtain ⟨k, hk, rfl, rfl, hW⟩ := hrel
    by_cases hlt : k < 32
    · have k0 : (0 : Int) ≤ (k : Int) := by omega
      have k32 : (k : Int) < 32 := by omega
      have I := fun W => idxS B k (by omega) W
      rw [hB.out k hlt] at I
      have bb := byt_bd N k
      have d1 := fun W => hex_cut (byt N k / 16) (by omega) (by omega) W
      have d2 := fun W => hex_cut (byt N k % 16) (by omega) (by omega) W
      have nx := tk_next N k
      have zS := tk_size N k
      have zX : (mkS [hexc (byt N k / 16)]).size = 1 := by rw [mkS_size]; rfl
      have zY : (mkS [hexc (byt N k % 16)]).size = 1 := by rw [mkS_size]; rfl
      generalize mkS (tk N k) = S at *
      generalize mkS [hexc (byt N k / 16)] = X at *
      generalize mkS [hexc (byt N k % 16)] = Y at *
      generalize byt N k = v at *
      have a1 := fun W => adds S X (by omega) (by omega) W
      have zSX : (S ++ X).size = 2 * k + 1 := by rw [ByteArray.size_append]; omega
      generalize S ++ X = SX at *
      have a2 := fun W => adds SX Y (by omega) (by omega) W
      generalize SX ++ Y = SY at *
      have HN : Hid (SY = mkS (tk N (k + 1))) := nx
      clear nx hB
      obtain ⟨b0, b1⟩ := bb
      have q1 : IntKind.u8.wrap (v / 16) = v / 16 := by rw [IntKind.wrap_u8]; omega
      have q2 : IntKind.u8.wrap (v / 16 + 1) = v / 16 + 1 := by rw [IntKind.wrap_u8]; omega
      have q3 : IntKind.u8.wrap (v % 16 + 1) = v % 16 + 1 := by rw [IntKind.wrap_u8]; omega
      go_wp2_with fail
      go_region
      go_wp2_with fail
      exact ⟨⟨k + 1, by omega, by go_num, by rw [HN.out], by go_grown⟩, by simp [intOf]; omega⟩
    · have e32 : k = 32 := by omega
      subst e32
      generalize hT : mkS (tk N 32) = T
      have HT : Hid (mkS (tk N 32) = T) := hT
      clear hT
      go_wp2_with fail
      go_ret
      exact ⟨by rw [HT.out]; rfl, hW⟩
theorem tk_txL (N : Int) : tk N 32 = txL N := rfl
theorem refText_any (N : Int) (w : World) : Calls Try.prog 15 #[nv N] w fun e w' => e = .returned (.string (txS N)) ∧ Below w.heap.size w w' :=
  refText_core N (mkS (bgL N)) (by rw [mkS_size]; simp [bgL]) (fun k hk => mkS_bt _ k _ (bgL_at N k hk) (byt_bd N k).1 (byt_bd N k).2) (fun W => refBig_any N W) w
end Go.Proofs.Ytpigofooblmdhaa
/- What the reference's Parse answers. -/
set_option linter.all false
set_option maxRecDepth 100000
namespace Go.Proofs.Ytpigofooblmdhaa
open Go.RowKit
theorem pn_pair (f : Nat → Int) : ∀ k, pn 8 (fun j => 16 * f (2 * j) + f (2 * j + 1)) k = pn 4 f (2 * k) := by
  intro k
  induction k with
  | zero => rfl
  | succ k ih =>
    show pn 8 _ k * 2 ^ 8 + (16 * f (2 * k) + f (2 * k + 1)) = (pn 4 f (2 * k) * 2 ^ 4 + f (2 * k)) * 2 ^ 4 + f (2 * k + 1)
    rw [ih]
    omega
/-- The bytes that the first k pairs of digits stand for. -/
def pr (s : ByteArray) (k : Nat) : List Int := (List.range k).map fun j => 16 * dg s (2 * j) + dg s (2 * j + 1)
theorem pr_next (s : ByteArray) (k : Nat) : (pr s (k + 1)).map (Value.int .u8) = (pr s k).map (Value.int .u8) ++ [.int .u8 (16 * dg s (2 * k) + dg s (2 * k + 1))] := by
  unfold pr; rw [List.range_succ]; simp
theorem dgi_yes (c : Int) (h : dgo c = true) : dgi c = dgv c := by unfold dgi; rw [if_pos h]
theorem dgi_no (c : Int) (h : ¬ dgo c = true) : dgi c = -1 := by unfold dgi; rw [if_neg h]
theorem convC (W : World) (g n c : Nat) (ns : List Int) (hn : ns.length = n) (hc : ∀ j u, (ns.map (Value.int .u8))[j]? = some u → W.cell? ((⟨g, 0, none⟩ : Addr).add j) = some u) :
    (convert 43 9 (.slice (some ⟨g, 0, none⟩) n c)).run Try.prog W = .ok (.string (mkS ns)) W := by
  rw [run_convert_bytes_string W 43 9 5 _ n c Try.underlying43 Try.underlying5 Try.underlying9]
  refine run_bytesToString W ⟨g, 0, none⟩ n c ns ?_
  have := run_loadCells_list (P := Try.prog) W ⟨g, 0, none⟩ (ns.map (Value.int .u8)) hc
  rw [List.length_map, hn] at this
  exact this
set_option maxHeartbeats 1000000 in
theorem refParse_no (s : ByteArray) (hs : s.size ≤ maxLen) (hn : s.size ≠ 64) (w : World) :
    Calls Try.prog 9 #[.string s] w fun e w' => e = .returned (.tuple #[.agg #[.int .u64 0, .int .u64 0, .int .u64 0, .int .u64 0], .int .i64 (lenE s.size 64)]) ∧ Below w.heap.size w w' := by
  have LE := fun W => sized_any s 64 hs W
  have ne : ¬ lenE (s.size : Int) 64 = 0 := by unfold lenE; split <;> (try split) <;> omega
  generalize lenE (s.size : Int) 64 = E at *
  have neb : (E == 0) = false := by simp [ne]
  have nnb : (E != 0) = true := by simp [ne]
  go_enter Try.func9, Try.ntmps9
  go_wp2_with (go_at_call 51; refine (LE _).mono ?_; rintro e w1 ⟨rfl, rfl⟩)
  go_loopw [4, 5, 6] (fun e v i wr => e = .int .i64 E ∧ i = .int .i64 0 ∧ Below w.heap.size w wr ∧ Arr wr w.heap.size 4 (fun _ => .int .u64 0))
    (fun _ _ _ _ => 0)
  case atStart => exact ⟨rfl, rfl, by go_grown, Arr.mk4 (by simp [go_sem]) (by simp [go_sem]) (by simp [go_sem]) (by simp [go_sem]) (by simp [go_sem]) (by simp [go_sem]) (by simp [go_sem]) (by simp [go_sem])⟩
  case round =>
    clear LE
    obtain ⟨rfl, rfl, hB, hZ⟩ := hrel
    have r0 := hZ.c
    have z0 := hZ.z
    clear hZ
    go_wp2_with fail
    all_goals
      refine bodyPost_ret (v := .tuple #[.agg #[.int .u64 0, .int .u64 0, .int .u64 0, .int .u64 0], .int .i64 E]) (by simp [results, Try.results9, go_sem, r0]) rfl ⟨rfl, ?_⟩
      go_grown
end Go.Proofs.Ytpigofooblmdhaa
/- What the reference's Parse answers at a text of 64 bytes. -/
set_option linter.all false
set_option maxRecDepth 100000
namespace Go.Proofs.Ytpigofooblmdhaa
open Go.RowKit
def Stop (p : Prop) : Prop := p
theorem stopAt {p : Prop} (h : Stop p) : p := h
theorem own_form {W : World} {b n : Nat} {v : Value} {xs : List Value} (h : W.ownsRow b 5 1 v n xs) : ∃ ao c, v = .slice ao n c := by
  rcases h.2 with ⟨h, h0⟩ | ⟨g, c, _, h, _⟩
  · exact ⟨none, 0, by rw [h, h0]⟩
  · exact ⟨_, c, h⟩
theorem own_some {W : World} {b n : Nat} {v : Value} {xs : List Value} (h : W.ownsRow b 5 1 v n xs) (hn : n ≠ 0) : ∃ g c, v = .slice (some ⟨g, 0, none⟩) n c := by
  rcases h.2 with ⟨_, h⟩ | ⟨g, c, _, h, _⟩
  · exact absurd h hn
  · exact ⟨g, c, h⟩
theorem one_new (W : World) (x : Value) (e : TypeId) : ∀ (j : Nat) (u : Value), ([x] : List Value)[j]? = some u → (W.alloc (.cells #[x] e)).cell? ((⟨W.heap.size, 0, none⟩ : Addr).add j) = some u := by
  intro j u h
  rw [Addr.add_mid]
  have hj : j < 1 := (List.getElem?_eq_some_iff.1 h).1
  have hc : j = 0 := by omega
  subst hc; simp at h; subst h; simp [go_sem]
set_option maxHeartbeats 1200000 in
theorem refParse_core (s : ByteArray) (hs : s.size = 64) (a0 a1 a2 a3 : Int)
    (C11 : ∀ W, Calls Try.prog 11 #[.string (mkS (pr s 32))] W fun e w' => e = .returned (.tuple #[.agg #[.int .u64 a0, .int .u64 a1, .int .u64 a2, .int .u64 a3], .int .i64 0]) ∧ Below W.heap.size W w') (w : World) :
    Calls Try.prog 9 #[.string s] w fun e w' => ((alld s 64 ∧ e = .returned (.tuple #[.agg #[.int .u64 a0, .int .u64 a1, .int .u64 a2, .int .u64 a3], .int .i64 0])) ∨
      (¬ alld s 64 ∧ e = .returned (.tuple #[.agg #[.int .u64 0, .int .u64 0, .int .u64 0, .int .u64 0], .int .i64 10]))) ∧ Below w.heap.size w w' := by
  have LE := fun W => sized_any s 64 (by rw [hs]; decide) W
  have le0 : lenE (s.size : Int) 64 = 0 := by rw [hs]; decide
  rw [le0] at LE
  obtain ⟨i0, hi, hz0, hz1, hz2⟩ := info_parts Try.info5
  go_enter Try.func9, Try.ntmps9
  go_wp2_with (go_at_call 51; refine (LE _).mono ?_; rintro e w1 ⟨rfl, rfl⟩)
  go_loopw [4, 5, 6] (fun e v i wr => ∃ (k m : Nat) (L : List Value), m = 2 * k ∧ k ≤ 32 ∧ i = .int .i64 m ∧ wr.ownsRow (w.heap.size + 1) 5 1 v k L ∧ w.heap.size < wr.heap.size ∧ Below w.heap.size w wr ∧ Arr wr w.heap.size 4 (fun _ => .int .u64 0) ∧
      ((e = .int .i64 0 ∧ alld s m ∧ L = (pr s k).map (Value.int .u8)) ∨ (e = .int .i64 10 ∧ ¬ alld s 64)))
    (fun _ _ i _ => 64 - (intOf i).toNat)
  case atStart => exact ⟨0, 0, [], rfl, by omega, rfl, World.ownsRow_nil _ _ _ _, by go_size, by go_grown, Arr.mk4 (by simp [go_sem]) (by simp [go_sem]) (by simp [go_sem]) (by simp [go_sem]) (by simp [go_sem]) (by simp [go_sem]) (by simp [go_sem]) (by simp [go_sem]), .inl ⟨rfl, fun i h => by omega, rfl⟩⟩
  case round =>
    clear LE le0
    obtain ⟨k, m, L, hm, hk, rfl, hown, hsz, hB, hZ, hc⟩ := hrel
    rcases hc with ⟨rfl, hall, hL⟩ | ⟨rfl, hno⟩
    · by_cases hlt : k < 32
      · have m0 : (0 : Int) ≤ (m : Int) := by omega
        have m64 : (m : Int) + 1 < (s.size : Int) := by omega
        have m65 : (m : Int) + 1 < 64 := by omega
        have I0 := fun W => idxS s m (by omega) W
        have I1 := fun W => idxS s (m + 1) (by omega) W
        rw [show (((m + 1 : Nat)) : Int) = (m : Int) + 1 by omega] at I1
        have D0 := fun W => digit_ref (bt s m) (bt_bd s m).1 (bt_bd s m).2 W
        have D1 := fun W => digit_ref (bt s (m + 1)) (bt_bd s (m + 1)).1 (bt_bd s (m + 1)).2 W
        obtain ⟨ao, cv, hv⟩ := own_form hown
        subst hv
        have hnext : ∀ (x : Value) (v' : Value) (w3 : World), w3.ownsRow (w.heap.size + 1) 5 1 v' (k + 1) (L ++ [x]) → (wr.alloc (.cells #[x] 5)).grownBy w3 (Value.ownBlock (.slice ao k cv)) →
            w3.ownsRow (w.heap.size + 1) 5 1 v' (k + 1) (L ++ [x]) ∧ w.heap.size < w3.heap.size ∧ Below w.heap.size w w3 ∧ Arr w3 w.heap.size 4 (fun _ => .int .u64 0) := by
          intro x v' w3 ho hg
          have b3 : Below (w.heap.size + 1) wr w3 := ((Below.refl _ _).alloc (by omega) _).grown hg (by go_size) (fun q hq => (hown.lt q hq).1)
          exact ⟨ho, by have := b3.size; omega, hB.trans (b3.mono (by omega)), hZ.below b3 (by omega)⟩
        by_cases hd : dgo (bt s m) = true ∧ dgo (bt s (m + 1)) = true
        · rw [dgi_yes _ hd.1] at D0
          rw [dgi_yes _ hd.2] at D1
          have hall' : alld s (m + 2) := fun i h => by
            by_cases e : i = m
            · subst e; exact hd.1
            · by_cases e1 : i = m + 1
              · subst e1; exact hd.2
              · exact hall i (by omega)
          have hx := dg_4 s m
          have hy := dg_4 s (m + 1)
          have nx := pr_next s k
          rw [← hm, ← hL] at nx
          unfold dg at hx hy nx
          generalize dgv (bt s m) = x at *
          generalize dgv (bt s (m + 1)) = y at *
          generalize bt s m = c0 at *
          generalize bt s (m + 1) = c1 at *
          have HM : Hid (m = 2 * k) := hm
          have HX : Hid ((pr s (k + 1)).map (Value.int .u8) = L ++ [.int .u8 (16 * x + y)]) := nx
          have HA : Hid (alld s (m + 2)) := hall'
          have x0 : 0 ≤ x ∧ x < 16 := by simpa using hx
          have y0 : 0 ≤ y ∧ y < 16 := by simpa using hy
          obtain ⟨x0, x1⟩ := x0
          obtain ⟨y0, y1⟩ := y0
          have wq : IntKind.u8.wrap (16 * x + y) = 16 * x + y := by rw [IntKind.wrap_u8]; omega
          have xn : ¬ x < 0 := by omega
          have yn : ¬ y < 0 := by omega
          have kb : k + 1 ≤ maxLen := by unfold maxLen; omega
          have kb2 : (k + 1) * 1 ≤ 140737488355328 := by omega
          have sb : ∀ ob, w.heap.size + 1 ≤ (wr.alloc ob).heap.size := fun ob => by simp; omega
          have HO : Hid (wr.ownsRow (w.heap.size + 1) 5 1 (.slice ao k cv) k L) := hown
          clear nx hall hall' hx hy hL hd hm C11 hZ hs hB
          go_wp2_with fail
          refine (D0 _).mono ?_
          rintro e w1 ⟨rfl, rfl⟩
          clear D0 I0
          go_wp2_with fail
          refine (D1 _).mono ?_
          rintro e w1 ⟨rfl, rfl⟩
          clear D1 I1
          go_wp2_with (at_builtin; refine stopAt ?_)
          unfold Stop
          refine wpList_append_own _ rfl _ _ 43 rfl (w.heap.size + 1) 5 i0 (.int .u8 0) 1 1 Try.underlying43 hi hz0 hz1 hz2 rfl (by decide) _ _ _ rfl (World.ownsRow.alloc HO.out _) ⟨_, 0, none⟩ 1 1 [.int .u8 (16 * x + y)] rfl rfl (one_new _ _ _) (fun u hu => by simp at hu; subst hu; rfl) kb kb2 (sb _) ?_
          intro v' w3 hown' hgrow3 hnil3
          have nxt := hnext _ _ _ hown' hgrow3
          clear hnext hnil3 hown' hgrow3
          go_wp2_with fail
          go_roundw
          case rel => exact ⟨k + 1, m + 2, _, by have := HM.out; omega, by omega, by go_num, nxt.1, nxt.2.1, nxt.2.2.1, nxt.2.2.2, .inl ⟨rfl, HA.out, HX.out.symm⟩⟩
          case measure => simp [intOf]; omega
        · have HNo : Hid (¬ alld s 64) := fun h => hd ⟨h m (by omega), h (m + 1) (by omega)⟩
          have xr : ∀ c : Int, (dgo c = true ∧ 0 ≤ dgi c ∧ dgi c < 16) ∨ (¬ dgo c = true ∧ dgi c = -1) := fun c => by
            by_cases h : dgo c = true
            · refine .inl ⟨h, ?_⟩
              rw [dgi_yes c h]; unfold dgv; split
              · omega
              · split <;> omega
            · exact .inr ⟨h, dgi_no c h⟩
          have x0 := xr (bt s m)
          have y0 := xr (bt s (m + 1))
          have xy : dgi (bt s m) < 0 ∨ dgi (bt s (m + 1)) < 0 := by
            rcases x0 with ⟨h, _⟩ | ⟨_, h⟩
            · rcases y0 with ⟨h2, _⟩ | ⟨_, h2⟩
              · exact absurd ⟨h, h2⟩ hd
              · right; omega
            · left; omega
          have x1 : -1 ≤ dgi (bt s m) ∧ dgi (bt s m) < 16 := by rcases x0 with ⟨_, h⟩ | ⟨_, h⟩ <;> omega
          have y1 : -1 ≤ dgi (bt s (m + 1)) ∧ dgi (bt s (m + 1)) < 16 := by rcases y0 with ⟨_, h⟩ | ⟨_, h⟩ <;> omega
          generalize dgi (bt s m) = x at *
          generalize dgi (bt s (m + 1)) = y at *
          generalize bt s m = c0 at *
          generalize bt s (m + 1) = c1 at *
          have HM : Hid (m = 2 * k) := hm
          obtain ⟨x0', x1⟩ := x1
          obtain ⟨y0', y1⟩ := y1
          have xyb : (decide (x < 0) || decide (y < 0)) = true := by simp [xy]
          have kb : k + 1 ≤ maxLen := by unfold maxLen; omega
          have kb2 : (k + 1) * 1 ≤ 140737488355328 := by omega
          have sb : ∀ ob, w.heap.size + 1 ≤ (wr.alloc ob).heap.size := fun ob => by simp; omega
          have HO : Hid (wr.ownsRow (w.heap.size + 1) 5 1 (.slice ao k cv) k L) := hown
          clear hall hL hd hm C11 hZ hs hB xr x0 y0 xy
          go_wp2_with fail
          refine (D0 _).mono ?_
          rintro e w1 ⟨rfl, rfl⟩
          clear D0 I0
          go_wp2_with fail
          refine (D1 _).mono ?_
          rintro e w1 ⟨rfl, rfl⟩
          clear D1 I1
          go_wp2_with (at_builtin; refine stopAt ?_)
          all_goals
            unfold Stop
            refine wpList_append_own _ rfl _ _ 43 rfl (w.heap.size + 1) 5 i0 (.int .u8 0) 1 1 Try.underlying43 hi hz0 hz1 hz2 rfl (by decide) _ _ _ rfl (World.ownsRow.alloc HO.out _) ⟨_, 0, none⟩ 1 1 [_] rfl rfl (one_new _ _ _) (fun u hu => by simp at hu; subst hu; rfl) kb kb2 (sb _) ?_
            intro v' w3 hown' hgrow3 hnil3
            have nxt := hnext _ _ _ hown' hgrow3
            clear hnext hnil3 hown' hgrow3
            go_wp2_with fail
            go_roundw
            case rel => exact ⟨k + 1, m + 2, _, by have := HM.out; omega, by omega, by go_num, nxt.1, nxt.2.1, nxt.2.2.1, nxt.2.2.2, .inr ⟨rfl, HNo.out⟩⟩
            case measure => simp [intOf]; omega
      · have e32 : k = 32 := by omega
        subst e32
        have e64 : m = 64 := by omega
        subst e64
        subst hL
        obtain ⟨g, c, hv⟩ := own_some hown (by omega)
        subst hv
        have cv := convC wr g 32 c (pr s 32) (by simp [pr]) (World.ownsRow.cells hown rfl)
        have HA : Hid (alld s 64) := hall
        generalize mkS (pr s 32) = T at *
        have mn : ¬ ((64 : Int) + 1 < (s.size : Int)) := by omega
        clear hown hall hm
        go_wp2_with fail
        refine (C11 _).mono ?_
        rintro e w2 ⟨rfl, hb2⟩
        have A2 := hZ.below hb2 hsz
        have hB2 := hB.trans (hb2.mono hB.size)
        have r0 := A2.c
        have z0 := A2.z
        clear hb2 A2 hZ hB C11 cv
        go_wp2_with fail
        refine bodyPost_ret (v := .tuple #[.agg #[.int .u64 a0, .int .u64 a1, .int .u64 a2, .int .u64 a3], .int .i64 0]) (by simp [results, Try.results9, go_sem, r0]) rfl ⟨.inl ⟨HA.out, rfl⟩, ?_⟩
        go_grown
    · have r0 := hZ.c
      have z0 := hZ.z
      have HNo : Hid (¬ alld s 64) := hno
      clear hZ hno C11 hown
      go_wp2_with fail
      all_goals
        refine bodyPost_ret (v := .tuple #[.agg #[.int .u64 0, .int .u64 0, .int .u64 0, .int .u64 0], .int .i64 10]) (by simp [results, Try.results9, go_sem, r0]) rfl ⟨.inr ⟨HNo.out, rfl⟩, ?_⟩
        go_grown
theorem pr_8 (s : ByteArray) (j : Nat) : 0 ≤ 16 * dg s (2 * j) + dg s (2 * j + 1) ∧ 16 * dg s (2 * j) + dg s (2 * j + 1) < 256 := by
  have h := dg_4 s (2 * j)
  have h2 := dg_4 s (2 * j + 1)
  simp at h h2
  omega
theorem refParse_64 (s : ByteArray) (hs : s.size = 64) (w : World) :
    Calls Try.prog 9 #[.string s] w fun e w' => ((alld s 64 ∧ e = .returned (.tuple #[nv (pn 4 (dg s) 64), .int .i64 0])) ∨
      (¬ alld s 64 ∧ e = .returned (.tuple #[.agg #[.int .u64 0, .int .u64 0, .int .u64 0, .int .u64 0], .int .i64 10]))) ∧ Below w.heap.size w w' := by
  refine refParse_core s hs _ _ _ _ (fun W => ?_) w
  have := refFromBig_yes (mkS (pr s 32)) (by rw [mkS_size]; simp [pr]) W
  have e : pn 8 (bt (mkS (pr s 32))) 32 = pn 4 (dg s) 64 := by
    rw [show (64 : Nat) = 2 * 32 from rfl, ← pn_pair]
    refine pn_congr 8 _ _ 32 fun i hi => ?_
    exact mkS_bt _ i _ (by simp [pr, hi]) (pr_8 s i).1 (pr_8 s i).2
  rw [e] at this
  exact this
end Go.Proofs.Ytpigofooblmdhaa
/- What num's and the reference's Parse, FromBig and FromLittle answer, for any text, in one word each. -/
set_option linter.all false
set_option maxRecDepth 100000
namespace Go.Proofs.Ytpigofooblmdhaa
open Go.RowKit Go.Sort
theorem nv_nil : nv 0 = .agg #[.int .u64 0, .int .u64 0, .int .u64 0, .int .u64 0] := by
  have h : ∀ k, lim 0 k = 0 := fun k => by simp [lim]
  simp only [nv, h]
set_option maxHeartbeats 1000000 in
theorem fromLittle_no (s : ByteArray) (hs : s.size ≤ maxLen) (hn : s.size ≠ 32) (w : World) :
    Calls Try.prog 12 #[.string s] w fun e w' => e = .returned (.tuple #[.agg #[.int .u64 0, .int .u64 0, .int .u64 0, .int .u64 0], .int .i64 (lenE s.size 32)]) ∧ Below w.heap.size w w' := by
  have LE := fun W => lengthError_any s 32 hs W
  have ne : ¬ lenE (s.size : Int) 32 = 0 := by unfold lenE; split <;> (try split) <;> omega
  generalize lenE (s.size : Int) 32 = E at *
  go_enter Try.func12, Try.ntmps12
  go_wp2_with (go_at_call 48; refine (LE _).mono ?_; rintro e w1 ⟨rfl, rfl⟩)
  refine bodyPost_ret (v := .tuple #[.agg #[.int .u64 0, .int .u64 0, .int .u64 0, .int .u64 0], .int .i64 E]) (by simp [results, Try.results12, go_sem]) rfl ⟨rfl, ?_⟩
  go_grown
/-- The number of 32 bytes, the lowest first. -/
def flN (s : ByteArray) : Int := if s.size = 32 then pn 8 (fun i => bt s (31 - i)) 32 else 0
/-- The number of 32 bytes, the highest first. -/
def fbN (s : ByteArray) : Int := if s.size = 32 then pn 8 (bt s) 32 else 0
open Classical in
/-- The number of 64 digits. -/
noncomputable def paN (s : ByteArray) : Int := if s.size = 64 ∧ alld s 64 then pn 4 (dg s) 64 else 0
open Classical in
noncomputable def paE (s : ByteArray) : Int := if s.size = 64 then (if alld s 64 then 0 else 10) else lenE s.size 64
theorem lenE_yes {n : Nat} {m : Int} (h : (n : Int) = m) : lenE n m = 0 := by unfold lenE; rw [if_neg (by omega), if_neg (by omega)]
theorem fromLittle_yes (s : ByteArray) (hs : s.size = 32) (w : World) :
    Calls Try.prog 12 #[.string s] w fun e w' => e = .returned (.tuple #[nv (pn 8 (fun i => bt s (31 - i)) 32), .int .i64 0]) ∧ Below w.heap.size w w' := by
  refine fromLittle_ok s hs _ (fun W => ?_) w
  have := fromBig_yes (mkS (tnL s)) (by rw [mkS_size]; simp [tnL]) W
  have e : pn 8 (bt (mkS (tnL s))) 32 = pn 8 (fun i => bt s (31 - i)) 32 := pn_congr 8 _ _ 32 fun i hi => by
    have b := bt_bd s (31 - i)
    rw [mkS_bt _ i _ (tnL_at _ i hi) b.1 b.2]
  rw [e] at this
  exact this
theorem fromLittle_u (s : ByteArray) (hs : s.size ≤ maxLen) (w : World) :
    Calls Try.prog 12 #[.string s] w fun e w' => e = .returned (.tuple #[nv (flN s), .int .i64 (lenE s.size 32)]) ∧ Below w.heap.size w w' := by
  unfold flN
  by_cases h : s.size = 32
  · rw [if_pos h, lenE_yes (by omega)]
    exact fromLittle_yes s h w
  · rw [if_neg h, nv_nil]
    exact fromLittle_no s hs h w
theorem refFromLittle_u (s : ByteArray) (hs : s.size ≤ maxLen) (w : World) :
    Calls Try.prog 13 #[.string s] w fun e w' => e = .returned (.tuple #[nv (flN s), .int .i64 (lenE s.size 32)]) ∧ Below w.heap.size w w' := by
  unfold flN
  by_cases h : s.size = 32
  · rw [if_pos h, lenE_yes (by omega)]
    exact refFromLittle_yes s h w
  · rw [if_neg h, nv_nil]
    exact refFromLittle_no s hs h w
theorem fromBig_u (s : ByteArray) (hs : s.size ≤ maxLen) (w : World) :
    Calls Try.prog 10 #[.string s] w fun e w' => e = .returned (.tuple #[nv (fbN s), .int .i64 (lenE s.size 32)]) ∧ Below w.heap.size w w' := by
  unfold fbN
  by_cases h : s.size = 32
  · rw [if_pos h, lenE_yes (by omega)]
    exact fromBig_yes s h w
  · rw [if_neg h, nv_nil]
    exact fromBig_no s hs h w
theorem refFromBig_u (s : ByteArray) (hs : (s.size : Int) ≤ 281474976710656) (w : World) :
    Calls Try.prog 11 #[.string s] w fun e w' => e = .returned (.tuple #[nv (fbN s), .int .i64 (lenE s.size 32)]) ∧ Below w.heap.size w w' := by
  unfold fbN
  by_cases h : s.size = 32
  · rw [if_pos h, lenE_yes (by omega)]
    exact refFromBig_yes s h w
  · rw [if_neg h, nv_nil]
    exact refFromBig_no s hs h w
theorem parse_u (s : ByteArray) (hs : s.size ≤ maxLen) (w : World) :
    Calls Try.prog 8 #[.string s] w fun e w' => e = .returned (.tuple #[nv (paN s), .int .i64 (paE s)]) ∧ Below w.heap.size w w' := by
  unfold paN paE
  by_cases h : s.size = 64
  · refine (parse_64 s h w).mono ?_
    rintro e w' ⟨⟨hall, rfl⟩ | ⟨hn, rfl⟩, hb⟩
    · refine ⟨?_, hb⟩
      rw [if_pos ⟨h, hall⟩, if_pos h, if_pos hall, show (64 : Nat) = 4 * 16 from rfl, nv_pb 4 16 (dg s) (by omega) (by omega) (dg_4 s)]
    · refine ⟨?_, hb⟩
      rw [if_neg (fun c => hn c.2), if_pos h, if_neg hn, nv_nil]
  · rw [if_neg (fun c => h c.1), if_neg h, nv_nil]
    exact parse_no s hs h w
theorem refParse_u (s : ByteArray) (hs : s.size ≤ maxLen) (w : World) :
    Calls Try.prog 9 #[.string s] w fun e w' => e = .returned (.tuple #[nv (paN s), .int .i64 (paE s)]) ∧ Below w.heap.size w w' := by
  unfold paN paE
  by_cases h : s.size = 64
  · refine (refParse_64 s h w).mono ?_
    rintro e w' ⟨⟨hall, rfl⟩ | ⟨hn, rfl⟩, hb⟩
    · refine ⟨?_, hb⟩
      rw [if_pos ⟨h, hall⟩, if_pos h, if_pos hall]
    · refine ⟨?_, hb⟩
      rw [if_neg (fun c => hn c.2), if_pos h, if_neg hn, nv_nil]
  · rw [if_neg (fun c => h c.1), if_neg h, nv_nil]
    exact refParse_no s hs h w
end Go.Proofs.Ytpigofooblmdhaa
/- What Clamp and coordinate answer, in xdh and in the reference. -/
set_option linter.all false
set_option maxRecDepth 100000
namespace Go.Proofs.Ytpigofooblmdhaa
open Go.RowKit Go.Sort
theorem b_low3 (z : Int) (h0 : 0 ≤ z) (h1 : z < 18446744073709551616) : bits .andNot .u64 z 7 = z / 8 * 8 := by go_bits2
theorem b_and63 (z : Int) (h0 : 0 ≤ z) (h1 : z < 18446744073709551616) : bits .and .u64 z 9223372036854775807 = z % 9223372036854775808 := by go_bits2
theorem b_not63 (z : Int) (h0 : 0 ≤ z) (h1 : z < 18446744073709551616) : bits .andNot .u64 z 9223372036854775808 = z % 9223372036854775808 := by go_bits2
theorem or62n (n : Nat) (h : n < 9223372036854775808) : n ||| 4611686018427387904 = n % 4611686018427387904 + 4611686018427387904 := by
  have key : ∀ r : Nat, r < 4611686018427387904 → 4611686018427387904 ||| r = 4611686018427387904 + r := fun r hr => by
    have := @Nat.two_pow_add_eq_or_of_lt 62 r (by simpa using hr) 1
    simp at this
    exact this.symm
  by_cases c : n < 4611686018427387904
  · rw [Nat.or_comm, key n c, Nat.mod_eq_of_lt c]; omega
  · obtain ⟨r, rfl⟩ : ∃ r, n = 4611686018427387904 + r := ⟨n - 4611686018427387904, by omega⟩
    rw [← key r (by omega), Nat.or_comm, ← Nat.or_assoc, Nat.or_self, key r (by omega)]
    omega
theorem b_or62 (z : Int) (h0 : 0 ≤ z) (h1 : z < 9223372036854775808) : bits .or .u64 z 4611686018427387904 = z % 4611686018427387904 + 4611686018427387904 := by
  have e := u64_or z 4611686018427387904 h0 (by omega) (by omega) (by omega)
  rw [e]
  have t : (4611686018427387904 : Int).toNat = 4611686018427387904 := rfl
  rw [t, or62n z.toNat (by omega)]
  omega
/-- A number as a scalar: without its bits 0, 1, 2 and 255, with bit 254. -/
def cl (N : Int) : Int := N % 28948022309329048855892746252171976963317496166410141009864396001978282409984 / 8 * 8 + 28948022309329048855892746252171976963317496166410141009864396001978282409984
theorem cl_lims (N : Int) : lim (cl N) 0 = lim N 0 / 8 * 8 ∧ lim (cl N) 1 = lim N 1 ∧ lim (cl N) 2 = lim N 2 ∧ lim (cl N) 3 = lim N 3 % 4611686018427387904 + 4611686018427387904 := by
  rw [lim0, lim1, lim2, lim3, lim0, lim1, lim2, lim3]; unfold cl; omega
theorem inn_cl (N : Int) : Inn (cl N) := by unfold Inn cl top256; omega
/-- A number as a coordinate: without its bit 255. -/
def c5 (N : Int) : Int := N % 57896044618658097711785492504343953926634992332820282019728792003956564819968
theorem c5_lims (N : Int) : lim (c5 N) 0 = lim N 0 ∧ lim (c5 N) 1 = lim N 1 ∧ lim (c5 N) 2 = lim N 2 ∧ lim (c5 N) 3 = lim N 3 % 9223372036854775808 := by
  rw [lim0, lim1, lim2, lim3, lim0, lim1, lim2, lim3]; unfold c5; omega
theorem inn_c5 (N : Int) : Inn (c5 N) := by unfold Inn c5 top256; omega
theorem lenE_nz {n : Nat} (h : n ≠ 32) : ¬ lenE (n : Int) 32 = 0 := by unfold lenE; split <;> (try split) <;> omega
set_option maxHeartbeats 2000000 in
theorem clamp_er (s : ByteArray) (N E : Int) (hE : ¬ E = 0) (w : World)
    (CF : ∀ W, Calls Try.prog 12 #[.string s] W fun e w' => e = .returned (.tuple #[nv N, .int .i64 E]) ∧ Below W.heap.size W w') :
    Calls Try.prog 40 #[.string s] w fun e w' => e = .returned (.tuple #[.agg #[.int .u64 0, .int .u64 0, .int .u64 0, .int .u64 0], .int .i64 E]) ∧ Below w.heap.size w w' := by
  go_enter Try.func40, Try.ntmps40
  have Bz := Arr.mk4 (w := (w.alloc (.cells #[.int .u64 0, .int .u64 0, .int .u64 0, .int .u64 0] 24))) (f := fun _ => .int .u64 0) (b := w.heap.size) (by simp [go_sem]) (by simp [go_sem]) (by simp [go_sem]) (by simp [go_sem]) (by simp [go_sem]) (by simp [go_sem]) (by simp [go_sem]) (by simp [go_sem])
  have hB' : Below w.heap.size w (w.alloc (.cells #[.int .u64 0, .int .u64 0, .int .u64 0, .int .u64 0] 24)) := by go_grown
  have Az := Bz
  have hB := hB'
  clear Bz hB'
  go_wp2_with fail
  refine (CF _).mono ?_
  rintro e w1 ⟨rfl, hb⟩
  have Bz := Arr.to' Az hb
  have hB' := Bel.call hB hb
  clear hb Az hB CF
  have Az := Bz
  have hB := hB'
  clear Bz hB'
  have cz := Az.c
  have zz := Az.z
  have lz := Az.lt
  have hS := hB.size
  go_wp2_with fail
  refine bodyPost_ret (v := .tuple #[.agg #[.int .u64 0, .int .u64 0, .int .u64 0, .int .u64 0], .int .i64 E]) (by simp [results, Try.results40, go_sem, cz, lz]) rfl ⟨rfl, ?_⟩
  go_grown
set_option maxHeartbeats 2000000 in
theorem clamp_ok (s : ByteArray) (N : Int) (w : World)
    (CF : ∀ W, Calls Try.prog 12 #[.string s] W fun e w' => e = .returned (.tuple #[nv N, .int .i64 0]) ∧ Below W.heap.size W w') :
    Calls Try.prog 40 #[.string s] w fun e w' => e = .returned (.tuple #[nv (cl N), .int .i64 0]) ∧ Below w.heap.size w w' := by
  go_enter Try.func40, Try.ntmps40
  have Bz := Arr.mk4 (w := (w.alloc (.cells #[.int .u64 0, .int .u64 0, .int .u64 0, .int .u64 0] 24))) (f := fun _ => .int .u64 0) (b := w.heap.size) (by simp [go_sem]) (by simp [go_sem]) (by simp [go_sem]) (by simp [go_sem]) (by simp [go_sem]) (by simp [go_sem]) (by simp [go_sem]) (by simp [go_sem])
  have hB' : Below w.heap.size w (w.alloc (.cells #[.int .u64 0, .int .u64 0, .int .u64 0, .int .u64 0] 24)) := by go_grown
  have Az := Bz
  have hB := hB'
  clear Bz hB'
  go_wp2_with fail
  refine (CF _).mono ?_
  rintro e w1 ⟨rfl, hb⟩
  have Bz := Arr.to' Az hb
  have hB' := Bel.call hB hb
  clear hb Az hB CF
  have Az := Bz
  have hB := hB'
  clear Bz hB'
  have cz := Az.c
  have zz := Az.z
  have lz := Az.lt
  have hS := hB.size
  obtain ⟨q0, q1, q2, q3⟩ := cl_lims N
  have b0 : bits .andNot .u64 (lim N 0) 7 = lim (cl N) 0 := by rw [b_low3 _ (lim_nn _ _) (lim_lt _ _), q0]
  have b3 : bits .or .u64 (bits .andNot .u64 (lim N 3) 9223372036854775808) 4611686018427387904 = lim (cl N) 3 := by rw [b_not63 _ (lim_nn _ _) (lim_lt _ _), b_or62 _ (by omega) (by omega), q3]; omega
  clear q0 q3
  go_wp2_with fail
  refine bodyPost_ret (v := .tuple #[nv (cl N), .int .i64 0]) (by simp [results, Try.results40, go_sem, cz, lz, q1, q2]) rfl ⟨rfl, ?_⟩
  go_grown
theorem clamp_u (s : ByteArray) (hs : s.size ≤ maxLen) (w : World) :
    Calls Try.prog 40 #[.string s] w fun e w' => e = .returned (.tuple #[nv (if s.size = 32 then cl (flN s) else 0), .int .i64 (lenE s.size 32)]) ∧ Below w.heap.size w w' := by
  have u := fun W => fromLittle_u s hs W
  by_cases h : s.size = 32
  · rw [if_pos h]
    rw [lenE_yes (by omega)] at u ⊢
    exact clamp_ok s _ w u
  · rw [if_neg h, nv_nil]
    exact clamp_er s _ _ (lenE_nz h) w u
set_option maxHeartbeats 2000000 in
theorem rclamp_er (s : ByteArray) (N E : Int) (hE : ¬ E = 0) (w : World)
    (CF : ∀ W, Calls Try.prog 13 #[.string s] W fun e w' => e = .returned (.tuple #[nv N, .int .i64 E]) ∧ Below W.heap.size W w') :
    Calls Try.prog 41 #[.string s] w fun e w' => e = .returned (.tuple #[.agg #[.int .u64 0, .int .u64 0, .int .u64 0, .int .u64 0], .int .i64 E]) ∧ Below w.heap.size w w' := by
  go_enter Try.func41, Try.ntmps41
  have Bz := Arr.mk4 (w := (w.alloc (.cells #[.int .u64 0, .int .u64 0, .int .u64 0, .int .u64 0] 24))) (f := fun _ => .int .u64 0) (b := w.heap.size) (by simp [go_sem]) (by simp [go_sem]) (by simp [go_sem]) (by simp [go_sem]) (by simp [go_sem]) (by simp [go_sem]) (by simp [go_sem]) (by simp [go_sem])
  have hB' : Below w.heap.size w (w.alloc (.cells #[.int .u64 0, .int .u64 0, .int .u64 0, .int .u64 0] 24)) := by go_grown
  have Az := Bz
  have hB := hB'
  clear Bz hB'
  go_wp2_with fail
  refine (CF _).mono ?_
  rintro e w1 ⟨rfl, hb⟩
  have Bz := Arr.to' Az hb
  have hB' := Bel.call hB hb
  clear hb Az hB CF
  have Az := Bz
  have hB := hB'
  clear Bz hB'
  have cz := Az.c
  have zz := Az.z
  have lz := Az.lt
  have hS := hB.size
  go_wp2_with fail
  refine bodyPost_ret (v := .tuple #[.agg #[.int .u64 0, .int .u64 0, .int .u64 0, .int .u64 0], .int .i64 E]) (by simp [results, Try.results41, go_sem, cz, lz]) rfl ⟨rfl, ?_⟩
  go_grown
set_option maxHeartbeats 2000000 in
theorem rclamp_ok (s : ByteArray) (N : Int) (w : World)
    (CF : ∀ W, Calls Try.prog 13 #[.string s] W fun e w' => e = .returned (.tuple #[nv N, .int .i64 0]) ∧ Below W.heap.size W w') :
    Calls Try.prog 41 #[.string s] w fun e w' => e = .returned (.tuple #[nv (cl N), .int .i64 0]) ∧ Below w.heap.size w w' := by
  go_enter Try.func41, Try.ntmps41
  have Bz := Arr.mk4 (w := (w.alloc (.cells #[.int .u64 0, .int .u64 0, .int .u64 0, .int .u64 0] 24))) (f := fun _ => .int .u64 0) (b := w.heap.size) (by simp [go_sem]) (by simp [go_sem]) (by simp [go_sem]) (by simp [go_sem]) (by simp [go_sem]) (by simp [go_sem]) (by simp [go_sem]) (by simp [go_sem])
  have hB' : Below w.heap.size w (w.alloc (.cells #[.int .u64 0, .int .u64 0, .int .u64 0, .int .u64 0] 24)) := by go_grown
  have Az := Bz
  have hB := hB'
  clear Bz hB'
  go_wp2_with fail
  refine (CF _).mono ?_
  rintro e w1 ⟨rfl, hb⟩
  have Bz := Arr.to' Az hb
  have hB' := Bel.call hB hb
  clear hb Az hB CF
  have Az := Bz
  have hB := hB'
  clear Bz hB'
  have cz := Az.c
  have zz := Az.z
  have lz := Az.lt
  have hS := hB.size
  obtain ⟨q0, q1, q2, q3⟩ := cl_lims N
  have b0 : IntKind.u64.wrap (lim N 0 / 8 * 8) = lim (cl N) 0 := by rw [q0, IntKind.wrap_u64]; have := lim_nn N 0; have := lim_lt N 0; omega
  have b3 : bits .or .u64 (bits .and .u64 (lim N 3) 9223372036854775807) 4611686018427387904 = lim (cl N) 3 := by rw [b_and63 _ (lim_nn _ _) (lim_lt _ _), b_or62 _ (by omega) (by omega), q3]; omega
  clear q0 q3
  go_wp2_with fail
  refine bodyPost_ret (v := .tuple #[nv (cl N), .int .i64 0]) (by simp [results, Try.results41, go_sem, cz, lz, q1, q2]) rfl ⟨rfl, ?_⟩
  go_grown
theorem rclamp_u (s : ByteArray) (hs : s.size ≤ maxLen) (w : World) :
    Calls Try.prog 41 #[.string s] w fun e w' => e = .returned (.tuple #[nv (if s.size = 32 then cl (flN s) else 0), .int .i64 (lenE s.size 32)]) ∧ Below w.heap.size w w' := by
  have u := fun W => refFromLittle_u s hs W
  by_cases h : s.size = 32
  · rw [if_pos h]
    rw [lenE_yes (by omega)] at u ⊢
    exact rclamp_ok s _ w u
  · rw [if_neg h, nv_nil]
    exact rclamp_er s _ _ (lenE_nz h) w u
set_option maxHeartbeats 2000000 in
theorem coord_er (s : ByteArray) (N E : Int) (hE : ¬ E = 0) (w : World)
    (CF : ∀ W, Calls Try.prog 12 #[.string s] W fun e w' => e = .returned (.tuple #[nv N, .int .i64 E]) ∧ Below W.heap.size W w') :
    Calls Try.prog 73 #[.string s] w fun e w' => e = .returned (.tuple #[.agg #[.int .u64 0, .int .u64 0, .int .u64 0, .int .u64 0], .int .i64 E]) ∧ Below w.heap.size w w' := by
  go_enter Try.func73, Try.ntmps73
  have Bz := Arr.mk4 (w := (w.alloc (.cells #[.int .u64 0, .int .u64 0, .int .u64 0, .int .u64 0] 24))) (f := fun _ => .int .u64 0) (b := w.heap.size) (by simp [go_sem]) (by simp [go_sem]) (by simp [go_sem]) (by simp [go_sem]) (by simp [go_sem]) (by simp [go_sem]) (by simp [go_sem]) (by simp [go_sem])
  have hB' : Below w.heap.size w (w.alloc (.cells #[.int .u64 0, .int .u64 0, .int .u64 0, .int .u64 0] 24)) := by go_grown
  have Az := Bz
  have hB := hB'
  clear Bz hB'
  go_wp2_with fail
  refine (CF _).mono ?_
  rintro e w1 ⟨rfl, hb⟩
  have Bz := Arr.to' Az hb
  have hB' := Bel.call hB hb
  clear hb Az hB CF
  have Az := Bz
  have hB := hB'
  clear Bz hB'
  have cz := Az.c
  have zz := Az.z
  have lz := Az.lt
  have hS := hB.size
  go_wp2_with fail
  refine bodyPost_ret (v := .tuple #[.agg #[.int .u64 0, .int .u64 0, .int .u64 0, .int .u64 0], .int .i64 E]) (by simp [results, Try.results73, go_sem, cz, lz]) rfl ⟨rfl, ?_⟩
  go_grown
set_option maxHeartbeats 2000000 in
theorem coord_ok (s : ByteArray) (N R : Int) (w : World)
    (CF : ∀ W, Calls Try.prog 12 #[.string s] W fun e w' => e = .returned (.tuple #[nv N, .int .i64 0]) ∧ Below W.heap.size W w')
    (CR : ∀ W, Calls Try.prog 27 #[nv (c5 N), .agg #[.int .u64 0, .int .u64 0, .int .u64 0, .int .u64 0], nv pp] W fun e w' => e = .returned (nv R) ∧ Below W.heap.size W w') :
    Calls Try.prog 73 #[.string s] w fun e w' => e = .returned (.tuple #[nv R, .int .i64 0]) ∧ Below w.heap.size w w' := by
  go_enter Try.func73, Try.ntmps73
  have Bz := Arr.mk4 (w := (w.alloc (.cells #[.int .u64 0, .int .u64 0, .int .u64 0, .int .u64 0] 24))) (f := fun _ => .int .u64 0) (b := w.heap.size) (by simp [go_sem]) (by simp [go_sem]) (by simp [go_sem]) (by simp [go_sem]) (by simp [go_sem]) (by simp [go_sem]) (by simp [go_sem]) (by simp [go_sem])
  have hB' : Below w.heap.size w (w.alloc (.cells #[.int .u64 0, .int .u64 0, .int .u64 0, .int .u64 0] 24)) := by go_grown
  have Az := Bz
  have hB := hB'
  clear Bz hB'
  go_wp2_with fail
  refine (CF _).mono ?_
  rintro e w1 ⟨rfl, hb⟩
  have Bz := Arr.to' Az hb
  have hB' := Bel.call hB hb
  clear hb Az hB CF
  have Az := Bz
  have hB := hB'
  clear Bz hB'
  obtain ⟨q0, q1, q2, q3⟩ := c5_lims N
  have b3 : bits .andNot .u64 (lim N 3) 9223372036854775808 = lim (c5 N) 3 := by rw [b_not63 _ (lim_nn _ _) (lim_lt _ _), q3]
  replace q0 := q0.symm
  replace q1 := q1.symm
  replace q2 := q2.symm
  clear q3
  have lz_2 := Az.lt
  have lB_2 := hB.size
  have Bz := (Arr.al' Az (.cells #[.int .u64 (lim (c5 N) 0), .int .u64 (lim (c5 N) 1), .int .u64 (lim (c5 N) 2), .int .u64 (lim (c5 N) 3)] 24))
  have Bn := Arr.mk4 (w := (w1.alloc (.cells #[.int .u64 (lim (c5 N) 0), .int .u64 (lim (c5 N) 1), .int .u64 (lim (c5 N) 2), .int .u64 (lim (c5 N) 3)] 24))) (f := fun j => .int .u64 (lim (c5 N) j)) (b := w1.heap.size) (by simp [go_sem]) (by simp [go_sem]) (by simp [go_sem]) (by simp [go_sem]) (by simp [go_sem]) (by simp [go_sem]) (by simp [go_sem]) (by simp [go_sem])
  have hB' := (Bel.al hB (.cells #[.int .u64 (lim (c5 N) 0), .int .u64 (lim (c5 N) 1), .int .u64 (lim (c5 N) 2), .int .u64 (lim (c5 N) 3)] 24))
  clear Az hB
  have Az := Bz
  have An := Bn
  have hB := hB'
  clear Bz Bn hB'
  have rn0 := fun ds os => cell_regrown (An.c 0 (by omega)) ds os
  have rn1 := fun ds os => cell_regrown (An.c 1 (by omega)) ds os
  have rn2 := fun ds os => cell_regrown (An.c 2 (by omega)) ds os
  have rn3 := fun ds os => cell_regrown (An.c 3 (by omega)) ds os
  go_wp2_with fail
  refine wp_region_below_tail 4 (by kernel_rfl) (by kernel_rfl) ?_
  simp only [List.take_succ_cons, List.take_zero, List.drop_succ_cons, List.drop_zero]
  repeat (go_big_quiet_step (first | (go_at_call 21; exact Calls.regrown_of (p21 _)) | (go_at_call 27; exact Calls.regrown_of (CR _))))
  refine wpQuiet_nil ?_
  intro w2 hw'
  obtain ⟨⟨dq, osq⟩, hw''⟩ := hw'
  have hb := below_of hw''
  clear hw''
  have Bz := Arr.to' Az hb
  have hB' := Bel.call hB hb
  clear hb rn0 rn1 rn2 rn3 Az An hB CR q0 q1 q2 b3
  have Az := Bz
  have hB := hB'
  clear Bz hB'
  have hS := hB.size
  have cz := Az.c
  have zz := Az.z
  go_wp2_with fail
  refine bodyPost_ret (v := .tuple #[nv R, .int .i64 0]) (by simp [results, Try.results73, go_sem, cz]) rfl ⟨rfl, ?_⟩
  go_grown
theorem coord_u (s : ByteArray) (hs : s.size ≤ maxLen) (w : World) :
    Calls Try.prog 73 #[.string s] w fun e w' => e = .returned (.tuple #[nv (if s.size = 32 then c5 (flN s) % pp else 0), .int .i64 (lenE s.size 32)]) ∧ Below w.heap.size w w' := by
  have u := fun W => fromLittle_u s hs W
  by_cases h : s.size = 32
  · rw [if_pos h]
    rw [lenE_yes (by omega)] at u ⊢
    refine coord_ok s _ _ w u fun W => ?_
    have := rem_any (c5 (flN s)) 0 pp (inn_c5 _).1 (inn_c5 _).2 (by omega) (by decide) inn_pp.1 inn_pp.2 W
    rw [nv_zero, Int.zero_mul, Int.add_zero, md_pos _ pp_pos] at this
    exact this
  · rw [if_neg h, nv_nil]
    exact coord_er s _ _ (lenE_nz h) w u
set_option maxHeartbeats 2000000 in
theorem rcoord_er (s : ByteArray) (N E : Int) (hE : ¬ E = 0) (w : World)
    (CF : ∀ W, Calls Try.prog 13 #[.string s] W fun e w' => e = .returned (.tuple #[nv N, .int .i64 E]) ∧ Below W.heap.size W w') :
    Calls Try.prog 75 #[.string s] w fun e w' => e = .returned (.tuple #[.agg #[.int .u64 0, .int .u64 0, .int .u64 0, .int .u64 0], .int .i64 E]) ∧ Below w.heap.size w w' := by
  go_enter Try.func75, Try.ntmps75
  have Bz := Arr.mk4 (w := (w.alloc (.cells #[.int .u64 0, .int .u64 0, .int .u64 0, .int .u64 0] 24))) (f := fun _ => .int .u64 0) (b := w.heap.size) (by simp [go_sem]) (by simp [go_sem]) (by simp [go_sem]) (by simp [go_sem]) (by simp [go_sem]) (by simp [go_sem]) (by simp [go_sem]) (by simp [go_sem])
  have hB' : Below w.heap.size w (w.alloc (.cells #[.int .u64 0, .int .u64 0, .int .u64 0, .int .u64 0] 24)) := by go_grown
  have Az := Bz
  have hB := hB'
  clear Bz hB'
  go_wp2_with fail
  refine (CF _).mono ?_
  rintro e w1 ⟨rfl, hb⟩
  have Bz := Arr.to' Az hb
  have hB' := Bel.call hB hb
  clear hb Az hB CF
  have Az := Bz
  have hB := hB'
  clear Bz hB'
  have cz := Az.c
  have zz := Az.z
  have lz := Az.lt
  have hS := hB.size
  go_wp2_with fail
  refine bodyPost_ret (v := .tuple #[.agg #[.int .u64 0, .int .u64 0, .int .u64 0, .int .u64 0], .int .i64 E]) (by simp [results, Try.results75, go_sem, cz, lz]) rfl ⟨rfl, ?_⟩
  go_grown
set_option maxHeartbeats 2000000 in
theorem rcoord_ok (s : ByteArray) (N R : Int) (w : World)
    (CF : ∀ W, Calls Try.prog 13 #[.string s] W fun e w' => e = .returned (.tuple #[nv N, .int .i64 0]) ∧ Below W.heap.size W w')
    (CR : ∀ W, Calls Try.prog 28 #[nv (c5 N), .agg #[.int .u64 0, .int .u64 0, .int .u64 0, .int .u64 0], nv pp] W fun e w' => e = .returned (nv R) ∧ Below W.heap.size W w') :
    Calls Try.prog 75 #[.string s] w fun e w' => e = .returned (.tuple #[nv R, .int .i64 0]) ∧ Below w.heap.size w w' := by
  go_enter Try.func75, Try.ntmps75
  have Bz := Arr.mk4 (w := (w.alloc (.cells #[.int .u64 0, .int .u64 0, .int .u64 0, .int .u64 0] 24))) (f := fun _ => .int .u64 0) (b := w.heap.size) (by simp [go_sem]) (by simp [go_sem]) (by simp [go_sem]) (by simp [go_sem]) (by simp [go_sem]) (by simp [go_sem]) (by simp [go_sem]) (by simp [go_sem])
  have hB' : Below w.heap.size w (w.alloc (.cells #[.int .u64 0, .int .u64 0, .int .u64 0, .int .u64 0] 24)) := by go_grown
  have Az := Bz
  have hB := hB'
  clear Bz hB'
  go_wp2_with fail
  refine (CF _).mono ?_
  rintro e w1 ⟨rfl, hb⟩
  have Bz := Arr.to' Az hb
  have hB' := Bel.call hB hb
  clear hb Az hB CF
  have Az := Bz
  have hB := hB'
  clear Bz hB'
  obtain ⟨q0, q1, q2, q3⟩ := c5_lims N
  have b3 : bits .and .u64 (lim N 3) 9223372036854775807 = lim (c5 N) 3 := by rw [b_and63 _ (lim_nn _ _) (lim_lt _ _), q3]
  replace q0 := q0.symm
  replace q1 := q1.symm
  replace q2 := q2.symm
  clear q3
  have lz_2 := Az.lt
  have lB_2 := hB.size
  have Bz := (Arr.al' Az (.cells #[.int .u64 (lim (c5 N) 0), .int .u64 (lim (c5 N) 1), .int .u64 (lim (c5 N) 2), .int .u64 (lim (c5 N) 3)] 24))
  have Bn := Arr.mk4 (w := (w1.alloc (.cells #[.int .u64 (lim (c5 N) 0), .int .u64 (lim (c5 N) 1), .int .u64 (lim (c5 N) 2), .int .u64 (lim (c5 N) 3)] 24))) (f := fun j => .int .u64 (lim (c5 N) j)) (b := w1.heap.size) (by simp [go_sem]) (by simp [go_sem]) (by simp [go_sem]) (by simp [go_sem]) (by simp [go_sem]) (by simp [go_sem]) (by simp [go_sem]) (by simp [go_sem])
  have hB' := (Bel.al hB (.cells #[.int .u64 (lim (c5 N) 0), .int .u64 (lim (c5 N) 1), .int .u64 (lim (c5 N) 2), .int .u64 (lim (c5 N) 3)] 24))
  clear Az hB
  have Az := Bz
  have An := Bn
  have hB := hB'
  clear Bz Bn hB'
  have rn0 := fun ds os => cell_regrown (An.c 0 (by omega)) ds os
  have rn1 := fun ds os => cell_regrown (An.c 1 (by omega)) ds os
  have rn2 := fun ds os => cell_regrown (An.c 2 (by omega)) ds os
  have rn3 := fun ds os => cell_regrown (An.c 3 (by omega)) ds os
  go_wp2_with fail
  refine wp_region_below_tail 4 (by kernel_rfl) (by kernel_rfl) ?_
  simp only [List.take_succ_cons, List.take_zero, List.drop_succ_cons, List.drop_zero]
  repeat (go_big_quiet_step (first | (go_at_call 79; exact Calls.regrown_of (p79 _)) | (go_at_call 28; exact Calls.regrown_of (CR _))))
  refine wpQuiet_nil ?_
  intro w2 hw'
  obtain ⟨⟨dq, osq⟩, hw''⟩ := hw'
  have hb := below_of hw''
  clear hw''
  have Bz := Arr.to' Az hb
  have hB' := Bel.call hB hb
  clear hb rn0 rn1 rn2 rn3 Az An hB CR q0 q1 q2 b3
  have Az := Bz
  have hB := hB'
  clear Bz hB'
  have hS := hB.size
  have cz := Az.c
  have zz := Az.z
  go_wp2_with fail
  refine bodyPost_ret (v := .tuple #[nv R, .int .i64 0]) (by simp [results, Try.results75, go_sem, cz]) rfl ⟨rfl, ?_⟩
  go_grown
theorem rcoord_u (s : ByteArray) (hs : s.size ≤ maxLen) (w : World) :
    Calls Try.prog 75 #[.string s] w fun e w' => e = .returned (.tuple #[nv (if s.size = 32 then c5 (flN s) % pp else 0), .int .i64 (lenE s.size 32)]) ∧ Below w.heap.size w w' := by
  have u := fun W => refFromLittle_u s hs W
  by_cases h : s.size = 32
  · rw [if_pos h]
    rw [lenE_yes (by omega)] at u ⊢
    refine rcoord_ok s _ _ w u fun W => ?_
    have := refRem_any (c5 (flN s)) 0 pp (inn_c5 _).1 (inn_c5 _).2 (by omega) (by decide) inn_pp.1 inn_pp.2 W
    rw [nv_zero, Int.zero_mul, Int.add_zero, md_pos _ pp_pos] at this
    exact this
  · rw [if_neg h, nv_nil]
    exact rcoord_er s _ _ (lenE_nz h) w u
end Go.Proofs.Ytpigofooblmdhaa
/- What Raw and Shared of xdh answer. -/
set_option linter.all false
set_option maxRecDepth 100000
namespace Go.Proofs.Ytpigofooblmdhaa
open Go.RowKit Go.Sort
set_option maxHeartbeats 2000000 in
theorem raw_k (k u : ByteArray) (K E : Int) (hE : ¬ E = 0) (w : World)
    (CK : ∀ W, Calls Try.prog 40 #[.string k] W fun e w' => e = .returned (.tuple #[nv K, .int .i64 E]) ∧ Below W.heap.size W w') :
    Calls Try.prog 42 #[.string k, .string u] w fun e w' => e = .returned (.tuple #[.string ⟨#[]⟩, .int .i64 E]) ∧ Below w.heap.size w w' := by
  go_enter Try.func42, Try.ntmps42
  go_wp2_with fail
  refine (CK _).mono ?_
  rintro e w1 ⟨rfl, hb1⟩
  have hB1 := hb1
  have hS1 := hB1.size
  clear hb1 CK
  go_wp2_with fail
  go_returns
  exact ⟨rfl, by go_grown⟩
set_option maxHeartbeats 2000000 in
theorem raw_e (k u : ByteArray) (K U E : Int) (hE : ¬ E = 0) (w : World)
    (CK : ∀ W, Calls Try.prog 40 #[.string k] W fun e w' => e = .returned (.tuple #[nv K, .int .i64 0]) ∧ Below W.heap.size W w')
    (CU : ∀ W, Calls Try.prog 73 #[.string u] W fun e w' => e = .returned (.tuple #[nv U, .int .i64 E]) ∧ Below W.heap.size W w') :
    Calls Try.prog 42 #[.string k, .string u] w fun e w' => e = .returned (.tuple #[.string ⟨#[]⟩, .int .i64 E]) ∧ Below w.heap.size w w' := by
  go_enter Try.func42, Try.ntmps42
  go_wp2_with fail
  refine (CK _).mono ?_
  rintro e w1 ⟨rfl, hb1⟩
  have hB1 := hb1
  have hS1 := hB1.size
  clear hb1 CK
  go_wp2_with fail
  refine (CU _).mono ?_
  rintro e w2 ⟨rfl, hb2⟩
  have Ak := (Arr.mk4 (w := w1.alloc (.cells #[.int .u64 (lim K 0), .int .u64 (lim K 1), .int .u64 (lim K 2), .int .u64 (lim K 3)] 24)) (f := fun j => .int .u64 (lim K j)) (b := w1.heap.size) (by simp [go_sem]) (by simp [go_sem]) (by simp [go_sem]) (by simp [go_sem]) (by simp [go_sem]) (by simp [go_sem]) (by simp [go_sem]) (by simp [go_sem])).below hb2 (by go_size)
  have hB2 := Bel.call (Bel.al hB1 (.cells #[.int .u64 (lim K 0), .int .u64 (lim K 1), .int .u64 (lim K 2), .int .u64 (lim K 3)] 24)) hb2
  have hS2 := hB2.size
  have lk := Ak.lt
  have ck := Ak.c
  clear hb2 CU hB1
  go_wp2_with fail
  go_returns
  exact ⟨rfl, by go_grown⟩
set_option maxHeartbeats 2000000 in
theorem raw_y (k u S : ByteArray) (K U R : Int) (w : World)
    (CK : ∀ W, Calls Try.prog 40 #[.string k] W fun e w' => e = .returned (.tuple #[nv K, .int .i64 0]) ∧ Below W.heap.size W w')
    (CU : ∀ W, Calls Try.prog 73 #[.string u] W fun e w' => e = .returned (.tuple #[nv U, .int .i64 0]) ∧ Below W.heap.size W w')
    (CL : ∀ W, Calls Try.prog 74 #[nv K, nv U] W fun e w' => e = .returned (nv R) ∧ Below W.heap.size W w')
    (CS : ∀ W, Calls Try.prog 18 #[nv R] W fun e w' => e = .returned (.string S) ∧ Below W.heap.size W w') :
    Calls Try.prog 42 #[.string k, .string u] w fun e w' => e = .returned (.tuple #[.string S, .int .i64 0]) ∧ Below w.heap.size w w' := by
  go_enter Try.func42, Try.ntmps42
  go_wp2_with fail
  refine (CK _).mono ?_
  rintro e w1 ⟨rfl, hb1⟩
  have hB1 := hb1
  have hS1 := hB1.size
  clear hb1 CK
  go_wp2_with fail
  refine (CU _).mono ?_
  rintro e w2 ⟨rfl, hb2⟩
  have Ak := (Arr.mk4 (w := w1.alloc (.cells #[.int .u64 (lim K 0), .int .u64 (lim K 1), .int .u64 (lim K 2), .int .u64 (lim K 3)] 24)) (f := fun j => .int .u64 (lim K j)) (b := w1.heap.size) (by simp [go_sem]) (by simp [go_sem]) (by simp [go_sem]) (by simp [go_sem]) (by simp [go_sem]) (by simp [go_sem]) (by simp [go_sem]) (by simp [go_sem])).below hb2 (by go_size)
  have hB2 := Bel.call (Bel.al hB1 (.cells #[.int .u64 (lim K 0), .int .u64 (lim K 1), .int .u64 (lim K 2), .int .u64 (lim K 3)] 24)) hb2
  have hS2 := hB2.size
  have lk := Ak.lt
  have ck := Ak.c
  clear hb2 CU hB1
  go_wp2_with fail
  refine (CL _).mono ?_
  rintro e w3 ⟨rfl, hb3⟩
  have hB3 := Bel.call (Bel.al hB2 _) hb3
  clear hb3 CL hB2 ck lk Ak
  go_wp2_with fail
  refine (CS _).mono ?_
  rintro e w4 ⟨rfl, hb4⟩
  have hB4 := Bel.call hB3 hb4
  clear hb4 CS hB3
  go_wp2_with fail
  go_returns
  exact ⟨rfl, hB4⟩
/-- What the ladder tells of a scalar and a coordinate. -/
def xr (K U : Int) : Int := vl (lsts U (upto K 255 255)).1 (lsts U (upto K 255 255)).2.1
theorem inn_xr (K U : Int) : Inn (xr K U) := inn_fm _ _
/-- Raw, as a text. -/
def rawS (k u : ByteArray) : ByteArray := if k.size = 32 ∧ u.size = 32 then mkS (ltL (xr (cl (flN k)) (c5 (flN u) % pp))) else ⟨#[]⟩
/-- Raw, as an error. -/
def rawE (k u : ByteArray) : Int := if k.size = 32 then lenE u.size 32 else lenE k.size 32
theorem raw_u (k u : ByteArray) (hk : k.size ≤ maxLen) (hu : u.size ≤ maxLen) (w : World) :
    Calls Try.prog 42 #[.string k, .string u] w fun e w' => e = .returned (.tuple #[.string (rawS k u), .int .i64 (rawE k u)]) ∧ Below w.heap.size w w' := by
  have ck := fun W => clamp_u k hk W
  have cu := fun W => coord_u u hu W
  unfold rawS rawE
  by_cases h : k.size = 32
  · rw [if_pos h, lenE_yes (by omega)] at ck
    rw [if_pos h]
    by_cases g : u.size = 32
    · rw [if_pos g, lenE_yes (by omega)] at cu
      rw [if_pos ⟨h, g⟩, lenE_yes (by omega)]
      exact raw_y k u _ _ _ _ w ck cu (fun W => ladder_any _ _ (inn_cl _) (inn_mod _) W) (fun W => little_any _ (inn_xr _ _).1 (inn_xr _ _).2 W)
    · rw [if_neg (fun c => g c.2)]
      exact raw_e k u _ _ _ (lenE_nz g) w ck cu
  · rw [if_neg (fun c => h c.1), if_neg h]
    exact raw_k k u _ _ (lenE_nz h) w ck
set_option maxHeartbeats 2000000 in
theorem shared_e (k u S : ByteArray) (E : Int) (hE : ¬ E = 0) (w : World)
    (CR : ∀ W, Calls Try.prog 42 #[.string k, .string u] W fun e w' => e = .returned (.tuple #[.string S, .int .i64 E]) ∧ Below W.heap.size W w') :
    Calls Try.prog 44 #[.string k, .string u] w fun e w' => e = .returned (.tuple #[.string ⟨#[]⟩, .int .i64 E]) ∧ Below w.heap.size w w' := by
  go_enter Try.func44, Try.ntmps44
  go_wp2_with fail
  refine (CR _).mono ?_
  rintro e w1 ⟨rfl, hb1⟩
  have hB1 := hb1
  clear hb1 CR
  go_wp2_with fail
  go_returns
  exact ⟨rfl, by go_grown⟩
set_option maxHeartbeats 2000000 in
theorem shared_0 (k u S T : ByteArray) (he : S.toList = T.toList) (w : World)
    (CR : ∀ W, Calls Try.prog 42 #[.string k, .string u] W fun e w' => e = .returned (.tuple #[.string S, .int .i64 0]) ∧ Below W.heap.size W w')
    (CZ : ∀ W, Calls Try.prog 18 #[.agg #[.int .u64 0, .int .u64 0, .int .u64 0, .int .u64 0]] W fun e w' => e = .returned (.string T) ∧ Below W.heap.size W w') :
    Calls Try.prog 44 #[.string k, .string u] w fun e w' => e = .returned (.tuple #[.string ⟨#[]⟩, .int .i64 15]) ∧ Below w.heap.size w w' := by
  go_enter Try.func44, Try.ntmps44
  go_wp2_with fail
  refine (CR _).mono ?_
  rintro e w1 ⟨rfl, hb1⟩
  have hB1 := hb1
  clear hb1 CR
  go_wp2_with fail
  refine (CZ _).mono ?_
  rintro e w2 ⟨rfl, hb2⟩
  have hB2 := Bel.call hB1 hb2
  clear hb2 CZ hB1
  go_wp2_with fail
  go_returns
  exact ⟨rfl, by go_grown⟩
set_option maxHeartbeats 2000000 in
theorem shared_y (k u S T : ByteArray) (hne : ¬ S.toList = T.toList) (w : World)
    (CR : ∀ W, Calls Try.prog 42 #[.string k, .string u] W fun e w' => e = .returned (.tuple #[.string S, .int .i64 0]) ∧ Below W.heap.size W w')
    (CZ : ∀ W, Calls Try.prog 18 #[.agg #[.int .u64 0, .int .u64 0, .int .u64 0, .int .u64 0]] W fun e w' => e = .returned (.string T) ∧ Below W.heap.size W w') :
    Calls Try.prog 44 #[.string k, .string u] w fun e w' => e = .returned (.tuple #[.string S, .int .i64 0]) ∧ Below w.heap.size w w' := by
  go_enter Try.func44, Try.ntmps44
  go_wp2_with fail
  refine (CR _).mono ?_
  rintro e w1 ⟨rfl, hb1⟩
  have hB1 := hb1
  clear hb1 CR
  go_wp2_with fail
  have hne' : (S.toList == T.toList) = false := by simpa using hne
  refine (CZ _).mono ?_
  rintro e w2 ⟨rfl, hb2⟩
  have hB2 := Bel.call hB1 hb2
  clear hb2 CZ hB1
  go_wp2_with fail
  go_returns
  exact ⟨rfl, by go_grown⟩
open Classical in
/-- Shared, as a text. -/
noncomputable def shS (k u : ByteArray) : ByteArray := if rawE k u = 0 ∧ ¬ (rawS k u).toList = (mkS (ltL 0)).toList then rawS k u else ⟨#[]⟩
open Classical in
/-- Shared, as an error. -/
noncomputable def shE (k u : ByteArray) : Int := if rawE k u = 0 then (if (rawS k u).toList = (mkS (ltL 0)).toList then 15 else 0) else rawE k u
theorem shared_u (k u : ByteArray) (hk : k.size ≤ maxLen) (hu : u.size ≤ maxLen) (w : World) :
    Calls Try.prog 44 #[.string k, .string u] w fun e w' => e = .returned (.tuple #[.string (shS k u), .int .i64 (shE k u)]) ∧ Below w.heap.size w w' := by
  have cr := fun W => raw_u k u hk hu W
  have cz : ∀ W, Calls Try.prog 18 #[.agg #[.int .u64 0, .int .u64 0, .int .u64 0, .int .u64 0]] W fun e w' => e = .returned (.string (mkS (ltL 0))) ∧ Below W.heap.size W w' := fun W => by
    have := little_any 0 (by omega) (by decide) W
    rw [nv_zero] at this
    exact this
  unfold shS shE
  by_cases h : rawE k u = 0
  · rw [h] at cr
    by_cases g : (rawS k u).toList = (mkS (ltL 0)).toList
    · rw [if_neg (fun c => c.2 g), if_pos h, if_pos g]
      exact shared_0 k u _ _ g w cr cz
    · rw [if_pos ⟨h, g⟩, if_pos h, if_neg g]
      exact shared_y k u _ _ g w cr cz
  · rw [if_neg (fun c => h c.1), if_neg h]
    exact shared_e k u _ _ h w cr
end Go.Proofs.Ytpigofooblmdhaa
/- Plain number theory: Fermat's little theorem, and how to show that a great number is prime. -/
set_option linter.all false
namespace Go.Proofs.Ytpigofooblmdhaa.NT
/-- A prime. -/
def Pri (p : Nat) : Prop := 2 ≤ p ∧ ∀ d, d ∣ p → d = 1 ∨ d = p
theorem Pri.cop {p a : Nat} (h : Pri p) (hn : ¬ p ∣ a) : Nat.Coprime p a := by
  rcases h.2 _ (Nat.gcd_dvd_left p a) with e | e
  · exact e
  · exact absurd (e ▸ Nat.gcd_dvd_right p a) hn
theorem Pri.dvd_mul {p a b : Nat} (h : Pri p) (hd : p ∣ a * b) : p ∣ a ∨ p ∣ b := by
  by_cases c : p ∣ a
  · exact .inl c
  · exact .inr ((h.cop c).dvd_of_dvd_mul_left hd)
def ch : Nat → Nat → Nat
  | _, 0 => 1
  | 0, _ + 1 => 0
  | n + 1, k + 1 => ch n k + ch n (k + 1)
theorem ch_big (n : Nat) : ∀ k, n < k → ch n k = 0 := by
  induction n with
  | zero => intro k hk; cases k with
    | zero => omega
    | succ k => rfl
  | succ n ih => intro k hk; cases k with
    | zero => omega
    | succ k => show ch n k + ch n (k + 1) = 0; rw [ih k (by omega), ih (k + 1) (by omega)]
theorem ch_self (n : Nat) : ch n n = 1 := by
  induction n with
  | zero => rfl
  | succ n ih => show ch n n + ch n (n + 1) = 1; rw [ih, ch_big n (n + 1) (by omega)]
theorem ch_zero (n : Nat) : ch n 0 = 1 := by cases n <;> rfl
theorem ch_abs (n : Nat) : ∀ k, (n + 1) * ch n k = ch (n + 1) (k + 1) * (k + 1) := by
  induction n with
  | zero => intro k; cases k with
    | zero => rfl
    | succ k => show 1 * 0 = (0 + ch 0 (k + 1 + 1)) * _; rw [ch_big 0 (k + 1 + 1) (by omega)]; simp
  | succ n ih => intro k; cases k with
    | zero =>
      have h1 := ih 0
      have e1 : ch (n + 1 + 1) (0 + 1) = ch (n + 1) 0 + ch (n + 1) (0 + 1) := rfl
      rw [e1, ch_zero]
      rw [ch_zero] at h1
      omega
    | succ k =>
      have h1 := ih k
      have h2 := ih (k + 1)
      have e1 : ch (n + 1 + 1) (k + 1 + 1) = ch (n + 1) (k + 1) + ch (n + 1) (k + 1 + 1) := rfl
      have e2 : ch (n + 1) (k + 1) = ch n k + ch n (k + 1) := rfl
      rw [e2] at h1 e1
      rw [e1, e2]
      clear e1 e2 ih
      generalize ch (n + 1) (k + 1 + 1) = x at *
      generalize ch n k = y at *
      generalize ch n (k + 1) = z at *
      grind
def S (n a : Nat) : Nat → Nat
  | 0 => 0
  | m + 1 => S n a m + ch n m * a ^ m
theorem S_step (n a m : Nat) : S (n + 1) a (m + 1) = S n a (m + 1) + a * S n a m := by
  induction m with
  | zero => simp [S, ch_zero]
  | succ m ih =>
    show S (n + 1) a (m + 1) + ch (n + 1) (m + 1) * a ^ (m + 1) = _
    have e : ch (n + 1) (m + 1) = ch n m + ch n (m + 1) := rfl
    have e2 : S n a (m + 1 + 1) = S n a (m + 1) + ch n (m + 1) * a ^ (m + 1) := rfl
    have e3 : S n a (m + 1) = S n a m + ch n m * a ^ m := rfl
    rw [ih, e, e2]
    have e4 : a * S n a (m + 1) = a * S n a m + ch n m * a ^ (m + 1) := by rw [e3, Nat.pow_succ]; grind
    rw [e4]; grind
theorem binom (a n : Nat) : S n a (n + 1) = (a + 1) ^ n := by
  induction n with
  | zero => simp [S, ch]
  | succ n ih =>
    rw [S_step]
    show S n a (n + 1) + ch n (n + 1) * _ + _ = _
    rw [ch_big n (n + 1) (by omega), ih, Nat.pow_succ]; grind
theorem Pri.ch {p : Nat} (h : Pri p) (k : Nat) (h0 : 0 < k) (h1 : k < p) : p ∣ ch p k := by
  obtain ⟨j, rfl⟩ : ∃ j, k = j + 1 := ⟨k - 1, by omega⟩
  obtain ⟨n, rfl⟩ : ∃ n, p = n + 1 := ⟨p - 1, by omega⟩
  have e := ch_abs n j
  have d : n + 1 ∣ NT.ch (n + 1) (j + 1) * (j + 1) := e ▸ Nat.dvd_mul_right _ _
  rcases h.dvd_mul d with c | c
  · exact c
  · exact absurd (Nat.le_of_dvd (by omega) c) (by omega)
theorem S_mod {p : Nat} (h : Pri p) (a : Nat) : ∀ m, m + 1 ≤ p → S p a (m + 1) % p = 1 := by
  intro m
  induction m with
  | zero => intro _; simp [S, ch_zero]; exact Nat.mod_eq_of_lt h.1
  | succ m ih =>
    intro hm
    show (S p a (m + 1) + NT.ch p (m + 1) * a ^ (m + 1)) % p = 1
    rw [Nat.add_mod, Nat.mul_mod, Nat.mod_eq_zero_of_dvd (h.ch (m + 1) (by omega) (by omega)), ih (by omega)]
    simp
    exact Nat.mod_eq_of_lt h.1
theorem fermat' {p : Nat} (h : Pri p) (a : Nat) : a ^ p % p = a % p := by
  induction a with
  | zero => rw [Nat.zero_pow (by have := h.1; omega)]
  | succ a ih =>
    rw [← binom]
    show (S p a p + NT.ch p p * a ^ p) % p = _
    obtain ⟨m, hm⟩ : ∃ m, p = m + 1 := ⟨p - 1, by have := h.1; omega⟩
    have s := S_mod h a m (by omega)
    rw [← hm] at s
    rw [ch_self, Nat.one_mul, Nat.add_mod, s, ih, Nat.add_comm 1, Nat.mod_add_mod]
theorem sub_dvd {p x y : Nat} (h : x % p = y % p) : p ∣ x - y := by
  have e1 := Nat.div_add_mod x p
  have e2 := Nat.div_add_mod y p
  refine ⟨x / p - y / p, ?_⟩
  rw [Nat.mul_sub]; omega
theorem fermat {p : Nat} (h : Pri p) (a : Nat) (hn : ¬ p ∣ a) : a ^ (p - 1) % p = 1 := by
  have f := fermat' h a
  obtain ⟨m, hm⟩ : ∃ m, p = m + 1 := ⟨p - 1, by have := h.1; omega⟩
  have e : a ^ p = a * a ^ (p - 1) := by rw [show p - 1 = m by omega]; conv => lhs; rw [hm, Nat.pow_succ, Nat.mul_comm]
  have a0 : 0 < a := by
    rcases Nat.eq_zero_or_pos a with c | c
    · subst c; exact absurd (Nat.dvd_zero p) hn
    · exact c
  have p1 : 1 ≤ a ^ (p - 1) := Nat.pow_pos a0
  rw [e] at f
  have d : p ∣ a * (a ^ (p - 1) - 1) := by
    rw [Nat.mul_sub, Nat.mul_one]
    exact sub_dvd f
  rcases h.dvd_mul d with c | c
  · exact absurd c hn
  · obtain ⟨t, ht⟩ := c
    have e1 : a ^ (p - 1) = 1 + p * t := by omega
    rw [e1, Nat.add_mul_mod_self_left]
    exact Nat.mod_eq_of_lt h.1
theorem pow_one_mod {x r : Nat} (h : x % r = 1 % r) (k : Nat) : x ^ k % r = 1 % r := by
  rw [Nat.pow_mod, h, ← Nat.pow_mod, Nat.one_pow]
theorem pow_gcd {x r : Nat} (a b : Nat) : x ^ a % r = 1 % r → x ^ b % r = 1 % r → x ^ (Nat.gcd a b) % r = 1 % r := by
  induction a, b using Nat.gcd.induction with
  | H0 n => intro _ h; rw [Nat.gcd_zero_left]; exact h
  | H1 m n hm ih =>
    intro h1 h2
    rw [Nat.gcd_rec]
    refine ih ?_ h1
    have e : x ^ n = x ^ (n % m) * (x ^ m) ^ (n / m) := by rw [← Nat.pow_mul, ← Nat.pow_add, Nat.mod_add_div]
    rw [e, Nat.mul_mod, pow_one_mod h1 (n / m), ← Nat.mul_mod, Nat.mul_one] at h2
    exact h2
theorem has_pri (n : Nat) : 2 ≤ n → ∃ p, Pri p ∧ p ∣ n := by
  induction n using Nat.strongRecOn with
  | ind n ih =>
    intro hn
    by_cases c : Pri n
    · exact ⟨n, c, Nat.dvd_refl n⟩
    · have : ∃ d, d ∣ n ∧ d ≠ 1 ∧ d ≠ n := Classical.byContradiction fun h => c ⟨hn, fun d hd => Classical.byContradiction fun h2 => h ⟨d, hd, by omega, by omega⟩⟩
      obtain ⟨d, hd, d1, dn⟩ := this
      have := Nat.le_of_dvd (by omega) hd
      have d0 : d ≠ 0 := by rintro rfl; obtain ⟨t, ht⟩ := hd; omega
      obtain ⟨p, hp, hpd⟩ := ih d (by omega) (by omega)
      exact ⟨p, hp, Nat.dvd_trans hpd hd⟩
theorem small_pri (n : Nat) (hn : 2 ≤ n) (c : ¬ Pri n) : ∃ r, Pri r ∧ r ∣ n ∧ r * r ≤ n := by
  have : ∃ d, d ∣ n ∧ d ≠ 1 ∧ d ≠ n := Classical.byContradiction fun h => c ⟨hn, fun d hd => Classical.byContradiction fun h2 => h ⟨d, hd, by omega, by omega⟩⟩
  obtain ⟨d, ⟨e, he⟩, d1, dn⟩ := this
  have d0 : d ≠ 0 := by rintro rfl; omega
  have e0 : e ≠ 0 := by rintro rfl; omega
  have e1 : e ≠ 1 := by rintro rfl; omega
  rcases Nat.le_total d e with h | h
  · obtain ⟨r, hr, hrd⟩ := has_pri d (by omega)
    have := Nat.le_of_dvd (by omega) hrd
    exact ⟨r, hr, he ▸ Nat.dvd_trans hrd (Nat.dvd_mul_right d e), he ▸ Nat.mul_le_mul this (by omega)⟩
  · obtain ⟨r, hr, hrd⟩ := has_pri e (by omega)
    have := Nat.le_of_dvd (by omega) hrd
    exact ⟨r, hr, he ▸ Nat.dvd_trans hrd (Nat.dvd_mul_left e d), he ▸ Nat.mul_le_mul (by omega) this⟩
theorem pock {n g q r : Nat} (hn : 2 ≤ n) (hq : Pri q) (hqn : q ∣ n - 1) (h1 : g ^ (n - 1) % n = 1) (h2 : Nat.gcd (g ^ ((n - 1) / q) % n + (n - 1)) n = 1) (hr : Pri r) (hrn : r ∣ n) : q ∣ r - 1 := by
  refine Classical.byContradiction fun hc => ?_
  have r2 := hr.1
  have er : (1 : Nat) % r = 1 := Nat.mod_eq_of_lt r2
  have g1 : g ^ (n - 1) % r = 1 % r := by rw [← Nat.mod_mod_of_dvd _ hrn, h1]
  have rg : ¬ r ∣ g := fun h => by
    have : r ∣ g ^ (n - 1) := Nat.dvd_trans h ⟨g ^ (n - 1 - 1), by rw [← Nat.pow_succ', show (n - 1 - 1).succ = n - 1 by omega]⟩
    have := Nat.mod_eq_zero_of_dvd this
    omega
  have g2 : g ^ (r - 1) % r = 1 % r := by rw [fermat hr g rg, er]
  have g3 := pow_gcd _ _ g1 g2
  obtain ⟨c, hcq⟩ := hqn
  have ec : (n - 1) / q = c := by rw [hcq, Nat.mul_div_cancel_left _ (by have := hq.1; omega)]
  have cop : Nat.Coprime q (Nat.gcd (n - 1) (r - 1)) := hq.cop fun h => hc (Nat.dvd_trans h (Nat.gcd_dvd_right _ _))
  have dc : Nat.gcd (n - 1) (r - 1) ∣ c := cop.symm.dvd_of_dvd_mul_left (hcq ▸ Nat.gcd_dvd_left (n - 1) (r - 1))
  obtain ⟨k, hk⟩ := dc
  have g4 : g ^ c % r = 1 % r := by rw [hk, Nat.pow_mul]; exact pow_one_mod g3 k
  rw [ec] at h2
  have g5 : g ^ c % n % r = 1 % r := by rw [Nat.mod_mod_of_dvd _ hrn, g4]
  have d1 : r ∣ g ^ c % n - 1 := sub_dvd g5
  have ge : 1 ≤ g ^ c % n := by
    rcases Nat.eq_zero_or_pos (g ^ c % n) with h | h
    · rw [h, Nat.zero_mod] at g5; omega
    · exact h
  have d2 : r ∣ g ^ c % n + (n - 1) := by
    have := Nat.dvd_add d1 hrn
    rwa [show g ^ c % n - 1 + n = g ^ c % n + (n - 1) by omega] at this
  have d3 := Nat.dvd_gcd d2 hrn
  rw [h2] at d3
  have := Nat.le_of_dvd (by omega) d3
  omega
theorem pock_end {n F : Nat} (hn : 2 ≤ n) (hF : n < (F + 1) * (F + 1)) (h : ∀ r, Pri r → r ∣ n → F ∣ r - 1) : Pri n := by
  refine Classical.byContradiction fun c => ?_
  obtain ⟨r, hr, hrn, hrr⟩ := small_pri n hn c
  have r2 := hr.1
  have := Nat.le_of_dvd (by omega) (h r hr hrn)
  have := Nat.mul_le_mul (show F + 1 ≤ r by omega) (show F + 1 ≤ r by omega)
  omega
def pmod (n : Nat) : Nat → Nat → Nat → Nat
  | 0, _, _ => 1 % n
  | f + 1, g, e => if e % 2 = 1 then g * pmod n f (g * g % n) (e / 2) % n else pmod n f (g * g % n) (e / 2)
theorem pmod_eq (n : Nat) : ∀ f g e, e < 2 ^ f → pmod n f g e = g ^ e % n := by
  intro f
  induction f with
  | zero => intro g e he; have : e = 0 := by omega
            subst this; rfl
  | succ f ih =>
    intro g e he
    have he2 : e / 2 < 2 ^ f := by rw [Nat.pow_succ] at he; omega
    have sq : (g * g % n) ^ (e / 2) % n = g ^ (2 * (e / 2)) % n := by rw [← Nat.pow_mod, Nat.pow_mul, Nat.pow_two]
    show (if e % 2 = 1 then g * pmod n f (g * g % n) (e / 2) % n else pmod n f (g * g % n) (e / 2)) = _
    rw [ih _ _ he2, sq]
    split
    · rw [Nat.mul_mod, Nat.mod_mod, ← Nat.mul_mod, ← Nat.pow_succ', show (2 * (e / 2)).succ = e by omega]
    · rw [show 2 * (e / 2) = e by omega]
def tst (n g q : Nat) : Bool := decide (2 ≤ n) && ((n - 1) % q == 0 && (pmod n 256 g (n - 1) == 1 && Nat.gcd (pmod n 256 g ((n - 1) / q) + (n - 1)) n == 1))
theorem pock' {n q r : Nat} (g : Nat) (hb : n < 2 ^ 256) (ht : tst n g q = true) (hq : Pri q) (hr : Pri r) (hrn : r ∣ n) : q ∣ r - 1 := by
  simp only [tst, Bool.and_eq_true, decide_eq_true_eq, beq_iff_eq] at ht
  obtain ⟨t1, t2, t3, t4⟩ := ht
  have q2 := hq.1
  rw [pmod_eq _ _ _ _ (by omega)] at t3
  rw [pmod_eq _ _ _ _ (Nat.lt_of_le_of_lt (Nat.div_le_self _ _) (by omega))] at t4
  exact pock t1 hq (Nat.dvd_of_mod_eq_zero t2) t3 t4 hr hrn
theorem pri1 {n q : Nat} (g : Nat) (hb : n < 2 ^ 256) (ht : tst n g q = true) (hF : n < (q + 1) * (q + 1)) (hq : Pri q) : Pri n :=
  pock_end (F := q) (by simp only [tst, Bool.and_eq_true, decide_eq_true_eq] at ht; exact ht.1) hF fun r hr hrn => pock' g hb ht hq hr hrn
theorem pri2 {n p q : Nat} (g : Nat) (hb : n < 2 ^ 256) (ht : tst n g p = true) (ht' : tst n g q = true) (hF : n < (p * q + 1) * (p * q + 1)) (hne : Nat.gcd p q = 1) (hp : Pri p) (hq : Pri q) : Pri n :=
  pock_end (F := p * q) (by simp only [tst, Bool.and_eq_true, decide_eq_true_eq] at ht; exact ht.1) hF fun r hr hrn =>
    Nat.Coprime.mul_dvd_of_dvd_of_dvd hne (pock' g hb ht hp hr hrn) (pock' g hb ht' hq hr hrn)
def small (n : Nat) : Bool := decide (2 ≤ n) && (List.range n).all fun d => d == 0 || d == 1 || n % d != 0
theorem pri_small {n : Nat} (h : small n = true) : Pri n := by
  simp only [small, Bool.and_eq_true, decide_eq_true_eq, List.all_eq_true, List.mem_range] at h
  refine ⟨h.1, fun d hd => ?_⟩
  have := Nat.le_of_dvd (by omega) hd
  rcases Nat.lt_or_ge d n with c | c
  · have t := h.2 d c
    have z := Nat.mod_eq_zero_of_dvd hd
    have d0 : d ≠ 0 := by rintro rfl; obtain ⟨t, ht⟩ := hd; omega
    simp [z, d0] at t
    exact .inl t
  · exact .inr (by omega)
theorem p0 : Pri 991 := pri2 2 (by decide +kernel) (by decide +kernel) (by decide +kernel) (by decide +kernel) (by decide +kernel) (pri_small (n := 11) (by decide +kernel)) (pri_small (n := 5) (by decide +kernel))
theorem p1 : Pri 8574133 := pri2 2 (by decide +kernel) (by decide +kernel) (by decide +kernel) (by decide +kernel) (by decide +kernel) p0 (pri_small (n := 103) (by decide +kernel))
theorem p2 : Pri 1919519569386763 := pri2 2 (by decide +kernel) (by decide +kernel) (by decide +kernel) (by decide +kernel) (by decide +kernel) p1 (pri_small (n := 127) (by decide +kernel))
theorem p3 : Pri 419 := pri2 2 (by decide +kernel) (by decide +kernel) (by decide +kernel) (by decide +kernel) (by decide +kernel) (pri_small (n := 19) (by decide +kernel)) (pri_small (n := 11) (by decide +kernel))
theorem p4 : Pri 569003 := pri2 2 (by decide +kernel) (by decide +kernel) (by decide +kernel) (by decide +kernel) (by decide +kernel) p3 (pri_small (n := 97) (by decide +kernel))
theorem p5 : Pri 2773320623 := pri1 2 (by decide +kernel) (by decide +kernel) (by decide +kernel) p4
theorem p6 : Pri 72106336199 := pri1 2 (by decide +kernel) (by decide +kernel) (by decide +kernel) p5
theorem p7 : Pri 75445702479781427272750846543864801 := pri2 2 (by decide +kernel) (by decide +kernel) (by decide +kernel) (by decide +kernel) (by decide +kernel) p2 p6
theorem p8 : Pri 1723 := pri1 2 (by decide +kernel) (by decide +kernel) (by decide +kernel) (pri_small (n := 41) (by decide +kernel))
theorem p9 : Pri 430751 := pri1 2 (by decide +kernel) (by decide +kernel) (by decide +kernel) p8
theorem p10 : Pri 4153 := pri1 2 (by decide +kernel) (by decide +kernel) (by decide +kernel) (pri_small (n := 173) (by decide +kernel))
theorem p11 : Pri 31757755568855353 := pri2 2 (by decide +kernel) (by decide +kernel) (by decide +kernel) (by decide +kernel) (by decide +kernel) p9 p10
theorem p12 : Pri 74058212732561358302231226437062788676166966415465897661863160754340907 := pri2 2 (by decide +kernel) (by decide +kernel) (by decide +kernel) (by decide +kernel) (by decide +kernel) p7 p11
theorem p13 : Pri 57896044618658097711785492504343953926634992332820282019728792003956564819949 := pri1 2 (by decide +kernel) (by decide +kernel) (by decide +kernel) p12
theorem p14 : Pri 704251 := pri2 2 (by decide +kernel) (by decide +kernel) (by decide +kernel) (by decide +kernel) (by decide +kernel) (pri_small (n := 313) (by decide +kernel)) (pri_small (n := 5) (by decide +kernel))
theorem p15 : Pri 1087 := pri1 2 (by decide +kernel) (by decide +kernel) (by decide +kernel) (pri_small (n := 181) (by decide +kernel))
theorem p16 : Pri 4349 := pri1 2 (by decide +kernel) (by decide +kernel) (by decide +kernel) p15
theorem p17 : Pri 78283 := pri1 2 (by decide +kernel) (by decide +kernel) (by decide +kernel) p16
theorem p18 : Pri 46076956964474543 := pri2 2 (by decide +kernel) (by decide +kernel) (by decide +kernel) (by decide +kernel) (by decide +kernel) p14 p17
theorem p19 : Pri 919 := pri2 5 (by decide +kernel) (by decide +kernel) (by decide +kernel) (by decide +kernel) (by decide +kernel) (pri_small (n := 17) (by decide +kernel)) (pri_small (n := 3) (by decide +kernel))
theorem p20 : Pri 3677 := pri1 2 (by decide +kernel) (by decide +kernel) (by decide +kernel) p19
theorem p21 : Pri 66417393611 := pri2 2 (by decide +kernel) (by decide +kernel) (by decide +kernel) (by decide +kernel) (by decide +kernel) p20 (pri_small (n := 197) (by decide +kernel))
theorem p22 : Pri 11290956913871 := pri1 2 (by decide +kernel) (by decide +kernel) (by decide +kernel) p21
theorem p23 : Pri 774023187263532362759620327192479577272145303 := pri2 2 (by decide +kernel) (by decide +kernel) (by decide +kernel) (by decide +kernel) (by decide +kernel) p18 p22
theorem p24 : Pri 835945042244614951780389953367877943453916927241 := pri1 2 (by decide +kernel) (by decide +kernel) (by decide +kernel) p23
theorem p25 : Pri 115792089210356248762697446949407573530086143415290314195533631308867097853951 := pri1 2 (by decide +kernel) (by decide +kernel) (by decide +kernel) p24
theorem p26 : Pri 155317 := Classical.byContradiction fun c => by
  obtain ⟨r, hr, hrn, hrr⟩ := small_pri 155317 (by decide) c
  have all : ((List.range 400).all fun d => d == 0 || d == 1 || 155317 % d != 0) = true := by decide +kernel
  rw [List.all_eq_true] at all
  have r4 : r < 400 := by
    rcases Nat.lt_or_ge r 400 with h | h
    · exact h
    · have := Nat.mul_le_mul h h; omega
  have t := all r (List.mem_range.2 r4)
  have r2 := hr.1
  have z := Nat.mod_eq_zero_of_dvd hrn
  simp [z] at t
  omega
theorem p27 : Pri 191039911 := pri1 2 (by decide +kernel) (by decide +kernel) (by decide +kernel) p26
theorem p28 : Pri 1511 := pri1 2 (by decide +kernel) (by decide +kernel) (by decide +kernel) (pri_small (n := 151) (by decide +kernel))
theorem p29 : Pri 3023 := pri1 2 (by decide +kernel) (by decide +kernel) (by decide +kernel) p28
theorem p30 : Pri 208150935158385979 := pri2 2 (by decide +kernel) (by decide +kernel) (by decide +kernel) (by decide +kernel) (by decide +kernel) p27 p29
theorem p31 : Pri 2624747550333869278416773953 := pri1 2 (by decide +kernel) (by decide +kernel) (by decide +kernel) p30
theorem p32 : Pri 104471 := pri1 2 (by decide +kernel) (by decide +kernel) (by decide +kernel) (pri_small (n := 337) (by decide +kernel))
theorem p33 : Pri 3969899 := pri1 2 (by decide +kernel) (by decide +kernel) (by decide +kernel) p32
theorem p34 : Pri 1002328039319 := pri1 2 (by decide +kernel) (by decide +kernel) (by decide +kernel) p33
theorem p35 : Pri 115792089210356248762697446949407573529996955224135760342422259061068512044369 := pri2 2 (by decide +kernel) (by decide +kernel) (by decide +kernel) (by decide +kernel) (by decide +kernel) p31 p34
end Go.Proofs.Ytpigofooblmdhaa.NT
/- The example of layer 3: RFC 7748's first, and a coordinate of 0. -/
set_option linter.all false
set_option maxRecDepth 100000
namespace Go.Proofs.Ytpigofooblmdhaa
open Go.RowKit Go.Sort
theorem la0 : [true, false, false, false, true, false, false, true, false, false, true, true, false, true, false].foldl (lstep 34426434033919594451155107781188821651316167215306631574996226621102155684838) ((1, 0, 34426434033919594451155107781188821651316167215306631574996226621102155684838, 1) : Int × Int × Int × Int) = (38823908460797657666483361503277475781630144149615523375485563982676228946860, 45105876714468267868065793491380380295499983917718258397975650028406915136873, 50454248067513615812927998578169643763859376317470679755687255942542258482887, 35693578470779519018683144706185675651036495956288485204069773902678061483881) := by decide +kernel
theorem la1 : [false, true, false, false, false, true, false, false, true, false, true, true, true, false, true].foldl (lstep 34426434033919594451155107781188821651316167215306631574996226621102155684838) ((38823908460797657666483361503277475781630144149615523375485563982676228946860, 45105876714468267868065793491380380295499983917718258397975650028406915136873, 50454248067513615812927998578169643763859376317470679755687255942542258482887, 35693578470779519018683144706185675651036495956288485204069773902678061483881) : Int × Int × Int × Int) = (56500261329474431162472132001581006515287588223950207337712624846826608735727, 5137363528154173200179635312142687107042813607889117799074961719694693353635, 49673951087991086217698382372551070261252310312110646938999545907497223726013, 30211511095384617556086654642682305214431767967711311125588779947623851968422) := by decide +kernel
theorem la2 : [false, false, true, false, false, false, true, false, false, false, false, true, false, false, false].foldl (lstep 34426434033919594451155107781188821651316167215306631574996226621102155684838) ((56500261329474431162472132001581006515287588223950207337712624846826608735727, 5137363528154173200179635312142687107042813607889117799074961719694693353635, 49673951087991086217698382372551070261252310312110646938999545907497223726013, 30211511095384617556086654642682305214431767967711311125588779947623851968422) : Int × Int × Int × Int) = (50709678336914074677660208797294172065764812195042294892877401421023189916197, 54559101726904987316590975301357161284329759283688031830852173568021526199706, 41596700706755170904764295234112023016208106244331776369890287589473190112107, 12259032010887752598290542774704359151859393077679798435678905047296791763548) := by decide +kernel
theorem la3 : [true, false, false, true, true, false, true, false, true, false, false, true, false, true, false].foldl (lstep 34426434033919594451155107781188821651316167215306631574996226621102155684838) ((50709678336914074677660208797294172065764812195042294892877401421023189916197, 54559101726904987316590975301357161284329759283688031830852173568021526199706, 41596700706755170904764295234112023016208106244331776369890287589473190112107, 12259032010887752598290542774704359151859393077679798435678905047296791763548) : Int × Int × Int × Int) = (28046059175588077627229632598195043886844228660991954265633586468227393458520, 33661525873766540099520392436941157321607292901080537217035312754346469923847, 28442957418389697279225384445773774157674958241029453634385683427630595510925, 47254944639617072223550213347551525524918803160408038363295252563399581886013) := by decide +kernel
theorem la4 : [false, false, false, false, false, false, true, true, false, false, false, false, true, false, true].foldl (lstep 34426434033919594451155107781188821651316167215306631574996226621102155684838) ((28046059175588077627229632598195043886844228660991954265633586468227393458520, 33661525873766540099520392436941157321607292901080537217035312754346469923847, 28442957418389697279225384445773774157674958241029453634385683427630595510925, 47254944639617072223550213347551525524918803160408038363295252563399581886013) : Int × Int × Int × Int) = (16964279897361214622933394939549673323509179397049400825273249536167038604253, 41592416696912529540807032302236308618661493121774377618232383211944979222697, 39631852205841246485973322362898381055326747939987754431335888171371521429579, 11479475009952235616794985046694763721558430993125019059449499353704914640754) := by decide +kernel
theorem la5 : [true, false, true, false, true, true, true, true, true, true, false, false, true, true, false].foldl (lstep 34426434033919594451155107781188821651316167215306631574996226621102155684838) ((16964279897361214622933394939549673323509179397049400825273249536167038604253, 41592416696912529540807032302236308618661493121774377618232383211944979222697, 39631852205841246485973322362898381055326747939987754431335888171371521429579, 11479475009952235616794985046694763721558430993125019059449499353704914640754) : Int × Int × Int × Int) = (4078048717078925677168177632394803780327715511204511803170571904670630976675, 37474131975719200361480490829330050128364815369548573472011142157299050703260, 1510845308656487959268880177433811708064016088731550186856138497234813717378, 13812347891097646848627378392004485626326255747065604232209097077634135447102) := by decide +kernel
theorem la6 : [false, false, false, false, true, false, false, false, false, true, false, true, false, false, true].foldl (lstep 34426434033919594451155107781188821651316167215306631574996226621102155684838) ((4078048717078925677168177632394803780327715511204511803170571904670630976675, 37474131975719200361480490829330050128364815369548573472011142157299050703260, 1510845308656487959268880177433811708064016088731550186856138497234813717378, 13812347891097646848627378392004485626326255747065604232209097077634135447102) : Int × Int × Int × Int) = (56054573634639957970442305357816129842779849531377884405940746180153851644547, 28117561350859183517596317674186482551730401698031541567889096382788771910109, 35683441721446463054850148051518612583940646328609413735615504925308989943948, 55063497256630611079054522338102887030132540728486389289411254222016189988898) := by decide +kernel
theorem la7 : [false, false, true, true, false, false, false, false, false, true, false, true, false, false, false].foldl (lstep 34426434033919594451155107781188821651316167215306631574996226621102155684838) ((56054573634639957970442305357816129842779849531377884405940746180153851644547, 28117561350859183517596317674186482551730401698031541567889096382788771910109, 35683441721446463054850148051518612583940646328609413735615504925308989943948, 55063497256630611079054522338102887030132540728486389289411254222016189988898) : Int × Int × Int × Int) = (38686447599340090171758780942022877806164508890445849188403595581981070834622, 15966122190991346815931481301672495727337697576802296444700246898874428174341, 10192264073126922192427344745513309878536867233850009818659033289442788000989, 30504075928699489627343276213817897388628458790676539282397346543638564041419) := by decide +kernel
theorem la8 : [true, true, false, false, false, true, false, true, true, false, true, true, true, false, true].foldl (lstep 34426434033919594451155107781188821651316167215306631574996226621102155684838) ((38686447599340090171758780942022877806164508890445849188403595581981070834622, 15966122190991346815931481301672495727337697576802296444700246898874428174341, 10192264073126922192427344745513309878536867233850009818659033289442788000989, 30504075928699489627343276213817897388628458790676539282397346543638564041419) : Int × Int × Int × Int) = (442976050587679741140283186821474094950908529783794433272710463706210094406, 27021284736884179627475649532269436963792322494231470646180417553631810154474, 32767147832854158832422751334682619503068083022139555870013097890195778391205, 14934983904070004255261220360669838263310817449087400669987125373888288499941) := by decide +kernel
theorem la9 : [false, true, false, true, true, true, true, false, false, true, false, false, false, true, true].foldl (lstep 34426434033919594451155107781188821651316167215306631574996226621102155684838) ((442976050587679741140283186821474094950908529783794433272710463706210094406, 27021284736884179627475649532269436963792322494231470646180417553631810154474, 32767147832854158832422751334682619503068083022139555870013097890195778391205, 14934983904070004255261220360669838263310817449087400669987125373888288499941) : Int × Int × Int × Int) = (57682317012886874140769721152078925758481529826751122713056139754814604104973, 13866938450180196817122247161890046573574724235807734287262242861156747606078, 47127243661051308477252001479157642566969262543358395739691683804390154726144, 26405241921080619885215487342181230759981352744330445102836795236180525164047) := by decide +kernel
theorem la10 : [false, true, false, false, false, false, false, true, false, false, true, false, false, true, false].foldl (lstep 34426434033919594451155107781188821651316167215306631574996226621102155684838) ((57682317012886874140769721152078925758481529826751122713056139754814604104973, 13866938450180196817122247161890046573574724235807734287262242861156747606078, 47127243661051308477252001479157642566969262543358395739691683804390154726144, 26405241921080619885215487342181230759981352744330445102836795236180525164047) : Int × Int × Int × Int) = (6963494692422664134674523859905821333229775294560035173644404315503034157160, 52657217032646215548482130251109739889517943712401961729529653014243000286662, 8761692084618560276211892830549642066902375701288617247303230215054175680061, 35870934485175978570118978686850321988039927383237663596741642453562288698228) := by decide +kernel
theorem la11 : [true, true, false, false, false, true, false, true, false, true, false, false, false, true, false].foldl (lstep 34426434033919594451155107781188821651316167215306631574996226621102155684838) ((6963494692422664134674523859905821333229775294560035173644404315503034157160, 52657217032646215548482130251109739889517943712401961729529653014243000286662, 8761692084618560276211892830549642066902375701288617247303230215054175680061, 35870934485175978570118978686850321988039927383237663596741642453562288698228) : Int × Int × Int × Int) = (4255762770975085920908469194644976073317439473345255552773855799751096341861, 55338385804089876239389705388700036245914777272663455598401335818926353724157, 17468173373753592029727198027618023969589138213072515121421317933336267977525, 31128733972514191004735429327004941263847662860729659846557335280043798234083) := by decide +kernel
theorem la12 : [true, true, false, false, false, true, true, true, false, true, true, true, false, false, true].foldl (lstep 34426434033919594451155107781188821651316167215306631574996226621102155684838) ((4255762770975085920908469194644976073317439473345255552773855799751096341861, 55338385804089876239389705388700036245914777272663455598401335818926353724157, 17468173373753592029727198027618023969589138213072515121421317933336267977525, 31128733972514191004735429327004941263847662860729659846557335280043798234083) : Int × Int × Int × Int) = (7927878358399291052239974808212397500807354247220424730761426274558668812684, 38581700288538777499651448864324450490548039475407814333692529163178625597097, 8408033955508890878799780518141823970028751509627055797467176340708833971994, 3569521666364088552879064176169460029573034713601259587739963118049000486495) := by decide +kernel
theorem la13 : [true, true, false, true, false, true, true, true, true, true, false, false, false, true, false].foldl (lstep 34426434033919594451155107781188821651316167215306631574996226621102155684838) ((7927878358399291052239974808212397500807354247220424730761426274558668812684, 38581700288538777499651448864324450490548039475407814333692529163178625597097, 8408033955508890878799780518141823970028751509627055797467176340708833971994, 3569521666364088552879064176169460029573034713601259587739963118049000486495) : Int × Int × Int × Int) = (23769742546589786601609457214425495171107127792259333796321810405732187195250, 35012147275779692652476907589756220596894766297315196046999338375808102286328, 56183044748560672038727298051054548739740807786031048489431146440110612470796, 54721847086537635867442612581838038506414619673176850774735501327859594876226) := by decide +kernel
theorem la14 : [true, false, false, true, false, true, true, true, true, false, false, false, false, false, true].foldl (lstep 34426434033919594451155107781188821651316167215306631574996226621102155684838) ((23769742546589786601609457214425495171107127792259333796321810405732187195250, 35012147275779692652476907589756220596894766297315196046999338375808102286328, 56183044748560672038727298051054548739740807786031048489431146440110612470796, 54721847086537635867442612581838038506414619673176850774735501327859594876226) : Int × Int × Int × Int) = (56800893991862990976396785276629781483845288789342365394637685835485702195246, 29181281794882208667053339213936126495396665305064615950902184338105288574972, 11390370068185876260356235969923879749552013528744709351840926247533605581890, 46426957643877517789213338424317867436671188206807204144977601191360635097621) := by decide +kernel
theorem la15 : [true, false, true, false, true, true, true, true, true, false, false, false, true, true, false].foldl (lstep 34426434033919594451155107781188821651316167215306631574996226621102155684838) ((56800893991862990976396785276629781483845288789342365394637685835485702195246, 29181281794882208667053339213936126495396665305064615950902184338105288574972, 11390370068185876260356235969923879749552013528744709351840926247533605581890, 46426957643877517789213338424317867436671188206807204144977601191360635097621) : Int × Int × Int × Int) = (30681502354801701046152196026270320320789865451500279784918714664360855973714, 40710321702877544881599284918604295164296309025011008711241559648540321294370, 12135507091235317837703602285694901101156655090697319827101527731423451756391, 27360458756016025810347072832510222941936570719133105141578230900317706774116) := by decide +kernel
theorem la16 : [true, false, false, false, true, true, false, true, false, true, false, false, false, false, false].foldl (lstep 34426434033919594451155107781188821651316167215306631574996226621102155684838) ((30681502354801701046152196026270320320789865451500279784918714664360855973714, 40710321702877544881599284918604295164296309025011008711241559648540321294370, 12135507091235317837703602285694901101156655090697319827101527731423451756391, 27360458756016025810347072832510222941936570719133105141578230900317706774116) : Int × Int × Int × Int) = (40720446656044610887007743526168351200949085573335588056034522313589005102685, 1913421194926468280838932077950181047858614286606652195677699455974229136423, 45198403963383475001499220223294015390359985422632949493664307348747558308726, 36379949606018683717551128537890270090677201059301795776972403754422640538679) := by decide +kernel
theorem la : lsts 34426434033919594451155107781188821651316167215306631574996226621102155684838 (upto 31029842492115040904895560451863089656472772604678260265531221036453811406496 255 255) = (40720446656044610887007743526168351200949085573335588056034522313589005102685, 1913421194926468280838932077950181047858614286606652195677699455974229136423, 45198403963383475001499220223294015390359985422632949493664307348747558308726, 36379949606018683717551128537890270090677201059301795776972403754422640538679) := by
  have e : upto 31029842492115040904895560451863089656472772604678260265531221036453811406496 255 255 = [true, false, false, false, true, false, false, true, false, false, true, true, false, true, false] ++ [false, true, false, false, false, true, false, false, true, false, true, true, true, false, true] ++ [false, false, true, false, false, false, true, false, false, false, false, true, false, false, false] ++ [true, false, false, true, true, false, true, false, true, false, false, true, false, true, false] ++ [false, false, false, false, false, false, true, true, false, false, false, false, true, false, true] ++ [true, false, true, false, true, true, true, true, true, true, false, false, true, true, false] ++ [false, false, false, false, true, false, false, false, false, true, false, true, false, false, true] ++ [false, false, true, true, false, false, false, false, false, true, false, true, false, false, false] ++ [true, true, false, false, false, true, false, true, true, false, true, true, true, false, true] ++ [false, true, false, true, true, true, true, false, false, true, false, false, false, true, true] ++ [false, true, false, false, false, false, false, true, false, false, true, false, false, true, false] ++ [true, true, false, false, false, true, false, true, false, true, false, false, false, true, false] ++ [true, true, false, false, false, true, true, true, false, true, true, true, false, false, true] ++ [true, true, false, true, false, true, true, true, true, true, false, false, false, true, false] ++ [true, false, false, true, false, true, true, true, true, false, false, false, false, false, true] ++ [true, false, true, false, true, true, true, true, true, false, false, false, true, true, false] ++ [true, false, false, false, true, true, false, true, false, true, false, false, false, false, false] := by decide +kernel
  rw [e]
  unfold lsts
  simp only [List.foldl_append]
  rw [la0, la1, la2, la3, la4, la5, la6, la7, la8, la9, la10, la11, la12, la13, la14, la15, la16]
theorem lz0 : [true, false, false, false, true, false, false, true, false, false, true, true, false, true, false].foldl (lstep 0) ((1, 0, 0, 1) : Int × Int × Int × Int) = (0, 0, 0, 0) := by decide +kernel
theorem lz1 : [false, true, false, false, false, true, false, false, true, false, true, true, true, false, true].foldl (lstep 0) ((0, 0, 0, 0) : Int × Int × Int × Int) = (0, 0, 0, 0) := by decide +kernel
theorem lz2 : [false, false, true, false, false, false, true, false, false, false, false, true, false, false, false].foldl (lstep 0) ((0, 0, 0, 0) : Int × Int × Int × Int) = (0, 0, 0, 0) := by decide +kernel
theorem lz3 : [true, false, false, true, true, false, true, false, true, false, false, true, false, true, false].foldl (lstep 0) ((0, 0, 0, 0) : Int × Int × Int × Int) = (0, 0, 0, 0) := by decide +kernel
theorem lz4 : [false, false, false, false, false, false, true, true, false, false, false, false, true, false, true].foldl (lstep 0) ((0, 0, 0, 0) : Int × Int × Int × Int) = (0, 0, 0, 0) := by decide +kernel
theorem lz5 : [true, false, true, false, true, true, true, true, true, true, false, false, true, true, false].foldl (lstep 0) ((0, 0, 0, 0) : Int × Int × Int × Int) = (0, 0, 0, 0) := by decide +kernel
theorem lz6 : [false, false, false, false, true, false, false, false, false, true, false, true, false, false, true].foldl (lstep 0) ((0, 0, 0, 0) : Int × Int × Int × Int) = (0, 0, 0, 0) := by decide +kernel
theorem lz7 : [false, false, true, true, false, false, false, false, false, true, false, true, false, false, false].foldl (lstep 0) ((0, 0, 0, 0) : Int × Int × Int × Int) = (0, 0, 0, 0) := by decide +kernel
theorem lz8 : [true, true, false, false, false, true, false, true, true, false, true, true, true, false, true].foldl (lstep 0) ((0, 0, 0, 0) : Int × Int × Int × Int) = (0, 0, 0, 0) := by decide +kernel
theorem lz9 : [false, true, false, true, true, true, true, false, false, true, false, false, false, true, true].foldl (lstep 0) ((0, 0, 0, 0) : Int × Int × Int × Int) = (0, 0, 0, 0) := by decide +kernel
theorem lz10 : [false, true, false, false, false, false, false, true, false, false, true, false, false, true, false].foldl (lstep 0) ((0, 0, 0, 0) : Int × Int × Int × Int) = (0, 0, 0, 0) := by decide +kernel
theorem lz11 : [true, true, false, false, false, true, false, true, false, true, false, false, false, true, false].foldl (lstep 0) ((0, 0, 0, 0) : Int × Int × Int × Int) = (0, 0, 0, 0) := by decide +kernel
theorem lz12 : [true, true, false, false, false, true, true, true, false, true, true, true, false, false, true].foldl (lstep 0) ((0, 0, 0, 0) : Int × Int × Int × Int) = (0, 0, 0, 0) := by decide +kernel
theorem lz13 : [true, true, false, true, false, true, true, true, true, true, false, false, false, true, false].foldl (lstep 0) ((0, 0, 0, 0) : Int × Int × Int × Int) = (0, 0, 0, 0) := by decide +kernel
theorem lz14 : [true, false, false, true, false, true, true, true, true, false, false, false, false, false, true].foldl (lstep 0) ((0, 0, 0, 0) : Int × Int × Int × Int) = (0, 0, 0, 0) := by decide +kernel
theorem lz15 : [true, false, true, false, true, true, true, true, true, false, false, false, true, true, false].foldl (lstep 0) ((0, 0, 0, 0) : Int × Int × Int × Int) = (0, 0, 0, 0) := by decide +kernel
theorem lz16 : [true, false, false, false, true, true, false, true, false, true, false, false, false, false, false].foldl (lstep 0) ((0, 0, 0, 0) : Int × Int × Int × Int) = (0, 0, 0, 0) := by decide +kernel
theorem lz : lsts 0 (upto 31029842492115040904895560451863089656472772604678260265531221036453811406496 255 255) = (0, 0, 0, 0) := by
  have e : upto 31029842492115040904895560451863089656472772604678260265531221036453811406496 255 255 = [true, false, false, false, true, false, false, true, false, false, true, true, false, true, false] ++ [false, true, false, false, false, true, false, false, true, false, true, true, true, false, true] ++ [false, false, true, false, false, false, true, false, false, false, false, true, false, false, false] ++ [true, false, false, true, true, false, true, false, true, false, false, true, false, true, false] ++ [false, false, false, false, false, false, true, true, false, false, false, false, true, false, true] ++ [true, false, true, false, true, true, true, true, true, true, false, false, true, true, false] ++ [false, false, false, false, true, false, false, false, false, true, false, true, false, false, true] ++ [false, false, true, true, false, false, false, false, false, true, false, true, false, false, false] ++ [true, true, false, false, false, true, false, true, true, false, true, true, true, false, true] ++ [false, true, false, true, true, true, true, false, false, true, false, false, false, true, true] ++ [false, true, false, false, false, false, false, true, false, false, true, false, false, true, false] ++ [true, true, false, false, false, true, false, true, false, true, false, false, false, true, false] ++ [true, true, false, false, false, true, true, true, false, true, true, true, false, false, true] ++ [true, true, false, true, false, true, true, true, true, true, false, false, false, true, false] ++ [true, false, false, true, false, true, true, true, true, false, false, false, false, false, true] ++ [true, false, true, false, true, true, true, true, true, false, false, false, true, true, false] ++ [true, false, false, false, true, true, false, true, false, true, false, false, false, false, false] := by decide +kernel
  rw [e]
  unfold lsts
  simp only [List.foldl_append]
  rw [lz0, lz1, lz2, lz3, lz4, lz5, lz6, lz7, lz8, lz9, lz10, lz11, lz12, lz13, lz14, lz15, lz16]
theorem pw_gen (c n m : Nat) : ((c : Int) ^ n % (m : Int)) = ((c ^ n % m : Nat) : Int) := by push_cast; rfl
theorem pw_of (c n m f : Nat) (h : n < 2 ^ f) : ((c : Int) ^ n % (m : Int)) = ((NT.pmod m f c n : Nat) : Int) := by rw [NT.pmod_eq m f c n h]; exact pw_gen c n m
theorem p2_nat : (pp - 2).toNat = 57896044618658097711785492504343953926634992332820282019728792003956564819947 := by decide
theorem pp_nat : pp = ((57896044618658097711785492504343953926634992332820282019728792003956564819949 : Nat) : Int) := by decide
theorem pw_nat (c : Nat) : ((c : Int) ^ (pp - 2).toNat % pp) = ((NT.pmod 57896044618658097711785492504343953926634992332820282019728792003956564819949 256 c 57896044618658097711785492504343953926634992332820282019728792003956564819947 : Nat) : Int) := by
  have h := pw_of c (pp - 2).toNat 57896044618658097711785492504343953926634992332820282019728792003956564819949 256 (by rw [p2_nat]; decide)
  rw [← pp_nat] at h
  rw [h]
  congr 2
theorem xr_a : xr 31029842492115040904895560451863089656472772604678260265531221036453811406496 34426434033919594451155107781188821651316167215306631574996226621102155684838 = 37325765543539916631701301279660700968428932651319597985674090122993663859395 := by
  unfold xr vl fm
  rw [la]
  show 40720446656044610887007743526168351200949085573335588056034522313589005102685 * (((1913421194926468280838932077950181047858614286606652195677699455974229136423 : Nat) : Int) ^ (pp - 2).toNat % pp) % pp = _
  rw [pw_nat]
  decide +kernel
theorem xr_z : xr 31029842492115040904895560451863089656472772604678260265531221036453811406496 0 = 0 := by
  unfold xr vl fm
  rw [lz]
  show 0 * (((0 : Nat) : Int) ^ (pp - 2).toNat % pp) % pp = _
  rw [pw_nat]
  decide +kernel
end Go.Proofs.Ytpigofooblmdhaa
/- What hexed and awake of layer 3's statements answer. -/
set_option linter.all false
set_option maxRecDepth 100000
namespace Go.Proofs.Ytpigofooblmdhaa
open Go.RowKit Go.Sort
set_option maxHeartbeats 2000000 in
theorem hexed_core (s G : ByteArray) (N E : Int) (w : World)
    (CP : ∀ W, Calls Try.prog 9 #[.string s] W fun e w' => e = .returned (.tuple #[nv N, .int .i64 E]) ∧ Below W.heap.size W w')
    (CB : ∀ W, Calls Try.prog 17 #[nv N] W fun e w' => e = .returned (.string G) ∧ Below W.heap.size W w') :
    Calls Try.prog 80 #[.string s] w fun e w' => e = .returned (.string G) ∧ Below w.heap.size w w' := by
  go_enter Try.func80, Try.ntmps80
  go_wp2_with fail
  refine (CP _).mono ?_
  rintro e w1 ⟨rfl, hb1⟩
  go_wp2_with fail
  refine (CB _).mono ?_
  rintro e w2 ⟨rfl, hb2⟩
  have hB2 := Bel.call (Bel.al hb1 (.cells #[.int .u64 (lim N 0), .int .u64 (lim N 1), .int .u64 (lim N 2), .int .u64 (lim N 3)] 24)) hb2
  go_wp2_with fail
  go_returns
  exact ⟨rfl, hB2⟩
theorem hexed_u (s : ByteArray) (hs : s.size ≤ maxLen) (w : World) : Calls Try.prog 80 #[.string s] w fun e w' => e = .returned (.string (mkS (bgL (paN s)))) ∧ Below w.heap.size w w' :=
  hexed_core s _ _ _ w (refParse_u s hs) (refBig_any _)
theorem flN_big (N : Int) : flN (mkS (bgL N)) = pn 8 (fun i => byt N (31 - i)) 32 := by
  unfold flN
  rw [if_pos (by rw [mkS_size]; simp [bgL])]
  refine pn_congr 8 _ _ 32 fun i hi => ?_
  have b := byt_bd N (31 - i)
  exact mkS_bt _ (31 - i) _ (bgL_at N (31 - i) (by omega)) b.1 b.2
theorem flN_little (N : Int) : flN (mkS (ltL N)) = pn 8 (byt N) 32 := by
  unfold flN
  rw [if_pos (by rw [mkS_size]; simp [ltL])]
  refine pn_congr 8 _ _ 32 fun i hi => ?_
  have b := byt_bd N (31 - (31 - i))
  rw [mkS_bt _ (31 - i) _ (ltL_at N (31 - i) (by omega)) b.1 b.2, show 31 - (31 - i) = i by omega]
def kT : ByteArray := ⟨#[97, 53, 52, 54, 101, 51, 54, 98, 102, 48, 53, 50, 55, 99, 57, 100, 51, 98, 49, 54, 49, 53, 52, 98, 56, 50, 52, 54, 53, 101, 100, 100, 54, 50, 49, 52, 52, 99, 48, 97, 99, 49, 102, 99, 53, 97, 49, 56, 53, 48, 54, 97, 50, 50, 52, 52, 98, 97, 52, 52, 57, 97, 99, 52]⟩
theorem kT_n : paN kT = 74756868917217338918917584016587037124861727485050470800130516242174941895364 := by
  unfold paN
  rw [if_pos ⟨by decide, by unfold alld; decide +kernel⟩]
  decide +kernel
def uT : ByteArray := ⟨#[101, 54, 100, 98, 54, 56, 54, 55, 53, 56, 51, 48, 51, 48, 100, 98, 51, 53, 57, 52, 99, 49, 97, 52, 50, 52, 98, 49, 53, 102, 55, 99, 55, 50, 54, 54, 50, 52, 101, 99, 50, 54, 98, 51, 51, 53, 51, 98, 49, 48, 97, 57, 48, 51, 97, 54, 100, 48, 97, 98, 49, 99, 52, 99]⟩
theorem uT_n : paN uT = 104419615249119614659739186697032859710140679125170609451633447793090120850508 := by
  unfold paN
  rw [if_pos ⟨by decide, by unfold alld; decide +kernel⟩]
  decide +kernel
def rT : ByteArray := ⟨#[99, 51, 100, 97, 53, 53, 51, 55, 57, 100, 101, 57, 99, 54, 57, 48, 56, 101, 57, 52, 101, 97, 52, 100, 102, 50, 56, 100, 48, 56, 52, 102, 51, 50, 101, 99, 99, 102, 48, 51, 52, 57, 49, 99, 55, 49, 102, 55, 53, 52, 98, 52, 48, 55, 53, 53, 55, 55, 97, 50, 56, 53, 53, 50]⟩
theorem rT_n : paN rT = 88586766281725376921413435608782555080348280383973441073918345390347211933010 := by
  unfold paN
  rw [if_pos ⟨by decide, by unfold alld; decide +kernel⟩]
  decide +kernel
theorem kS_n : flN (mkS (bgL 74756868917217338918917584016587037124861727485050470800130516242174941895364)) = 88925887110773138616681052956207043583107764937498542285260013040410376226469 := by rw [flN_big]; decide +kernel
theorem uS_n : flN (mkS (bgL 104419615249119614659739186697032859710140679125170609451633447793090120850508)) = 34426434033919594451155107781188821651316167215306631574996226621102155684838 := by rw [flN_big]; decide +kernel
theorem zS_n : flN (mkS (ltL 0)) = 0 := by rw [flN_little]; decide +kernel
theorem kC_n : cl 88925887110773138616681052956207043583107764937498542285260013040410376226469 = 31029842492115040904895560451863089656472772604678260265531221036453811406496 := by decide +kernel
theorem uC_n : c5 34426434033919594451155107781188821651316167215306631574996226621102155684838 % pp = 34426434033919594451155107781188821651316167215306631574996226621102155684838 := by decide +kernel
theorem big32 (N : Int) : (mkS (bgL N)).size = 32 := by rw [mkS_size]; simp [bgL]
theorem lit32 (N : Int) : (mkS (ltL N)).size = 32 := by rw [mkS_size]; simp [ltL]
theorem rS_n : rawS (mkS (bgL 74756868917217338918917584016587037124861727485050470800130516242174941895364)) (mkS (bgL 104419615249119614659739186697032859710140679125170609451633447793090120850508)) = mkS (bgL 88586766281725376921413435608782555080348280383973441073918345390347211933010) := by
  unfold rawS
  rw [if_pos ⟨big32 _, big32 _⟩, kS_n, uS_n, kC_n, uC_n, xr_a]
  exact congrArg mkS (by decide +kernel)
theorem rE_n (k u : ByteArray) (hk : k.size = 32) (hu : u.size = 32) : rawE k u = 0 := by unfold rawE; rw [if_pos hk, lenE_yes (by omega)]
theorem zR_n : rawS (mkS (bgL 74756868917217338918917584016587037124861727485050470800130516242174941895364)) (mkS (ltL 0)) = mkS (ltL 0) := by
  unfold rawS
  rw [if_pos ⟨big32 _, lit32 _⟩, kS_n, zS_n, kC_n, show c5 0 % pp = 0 by decide, xr_z]
theorem zE_n : shE (mkS (bgL 74756868917217338918917584016587037124861727485050470800130516242174941895364)) (mkS (ltL 0)) = 15 := by
  unfold shE
  rw [if_pos (rE_n _ _ (big32 _) (lit32 _)), if_pos (by rw [zR_n])]
set_option maxHeartbeats 4000000 in
theorem awake3_core (k u S z T : ByteArray) (w : World)
    (H1 : ∀ W, Calls Try.prog 80 #[.string ⟨#[97, 53, 52, 54, 101, 51, 54, 98, 102, 48, 53, 50, 55, 99, 57, 100, 51, 98, 49, 54, 49, 53, 52, 98, 56, 50, 52, 54, 53, 101, 100, 100, 54, 50, 49, 52, 52, 99, 48, 97, 99, 49, 102, 99, 53, 97, 49, 56, 53, 48, 54, 97, 50, 50, 52, 52, 98, 97, 52, 52, 57, 97, 99, 52]⟩] W fun e w' => e = .returned (.string k) ∧ Below W.heap.size W w')
    (H2 : ∀ W, Calls Try.prog 80 #[.string ⟨#[101, 54, 100, 98, 54, 56, 54, 55, 53, 56, 51, 48, 51, 48, 100, 98, 51, 53, 57, 52, 99, 49, 97, 52, 50, 52, 98, 49, 53, 102, 55, 99, 55, 50, 54, 54, 50, 52, 101, 99, 50, 54, 98, 51, 51, 53, 51, 98, 49, 48, 97, 57, 48, 51, 97, 54, 100, 48, 97, 98, 49, 99, 52, 99]⟩] W fun e w' => e = .returned (.string u) ∧ Below W.heap.size W w')
    (H3 : ∀ W, Calls Try.prog 80 #[.string ⟨#[99, 51, 100, 97, 53, 53, 51, 55, 57, 100, 101, 57, 99, 54, 57, 48, 56, 101, 57, 52, 101, 97, 52, 100, 102, 50, 56, 100, 48, 56, 52, 102, 51, 50, 101, 99, 99, 102, 48, 51, 52, 57, 49, 99, 55, 49, 102, 55, 53, 52, 98, 52, 48, 55, 53, 53, 55, 55, 97, 50, 56, 53, 53, 50]⟩] W fun e w' => e = .returned (.string S) ∧ Below W.heap.size W w')
    (CR : ∀ W, Calls Try.prog 42 #[.string k, .string u] W fun e w' => e = .returned (.tuple #[.string S, .int .i64 0]) ∧ Below W.heap.size W w')
    (CZ : ∀ W, Calls Try.prog 19 #[.agg #[.int .u64 0, .int .u64 0, .int .u64 0, .int .u64 0]] W fun e w' => e = .returned (.string z) ∧ Below W.heap.size W w')
    (CS : ∀ W, Calls Try.prog 44 #[.string k, .string z] W fun e w' => e = .returned (.tuple #[.string T, .int .i64 15]) ∧ Below W.heap.size W w') :
    Calls Try.prog 46 #[] w fun e w' => e = .returned (.bool true) ∧ Below w.heap.size w w' := by
  go_enter Try.func46, Try.ntmps46
  go_wp2_with fail
  refine (H1 _).mono ?_
  rintro e w1 ⟨rfl, hb⟩
  have hB := hb
  clear hb
  go_wp2_with fail
  refine (H2 _).mono ?_
  rintro e w2 ⟨rfl, hb⟩
  have hB' := Bel.call hB hb
  clear hb hB
  have hB := hB'
  clear hB'
  go_wp2_with fail
  refine (CR _).mono ?_
  rintro e w3 ⟨rfl, hb⟩
  have hB' := Bel.call hB hb
  clear hb hB
  have hB := hB'
  clear hB'
  go_wp2_with fail
  refine (CZ _).mono ?_
  rintro e w4 ⟨rfl, hb⟩
  have hB' := Bel.call hB hb
  clear hb hB
  have hB := hB'
  clear hB'
  go_wp2_with fail
  refine (CS _).mono ?_
  rintro e w5 ⟨rfl, hb⟩
  have hB' := Bel.call hB hb
  clear hb hB
  have hB := hB'
  clear hB'
  go_wp2_with fail
  refine (H3 _).mono ?_
  rintro e w6 ⟨rfl, hb⟩
  have hB' := Bel.call hB hb
  clear hb hB
  have hB := hB'
  clear hB'
  go_wp2_with fail
  go_returns
  exact ⟨rfl, hB⟩
theorem awake3 (w : World) : Calls Try.prog 46 #[] w fun e w' => e = .returned (.bool true) ∧ Below w.heap.size w w' := by
  have m32 : ∀ s : ByteArray, s.size = 32 → s.size ≤ maxLen := fun s h => by rw [h]; decide
  refine awake3_core (mkS (bgL 74756868917217338918917584016587037124861727485050470800130516242174941895364)) (mkS (bgL 104419615249119614659739186697032859710140679125170609451633447793090120850508)) (mkS (bgL 88586766281725376921413435608782555080348280383973441073918345390347211933010)) (mkS (ltL 0)) (shS (mkS (bgL 74756868917217338918917584016587037124861727485050470800130516242174941895364)) (mkS (ltL 0))) w (fun W => ?_) (fun W => ?_) (fun W => ?_) (fun W => ?_) (fun W => ?_) (fun W => ?_)
  · have := hexed_u kT (by decide) W
    rw [kT_n] at this
    exact this
  · have := hexed_u uT (by decide) W
    rw [uT_n] at this
    exact this
  · have := hexed_u rT (by decide) W
    rw [rT_n] at this
    exact this
  · have := raw_u (mkS (bgL 74756868917217338918917584016587037124861727485050470800130516242174941895364)) (mkS (bgL 104419615249119614659739186697032859710140679125170609451633447793090120850508)) (m32 _ (big32 _)) (m32 _ (big32 _)) W
    rw [rS_n, rE_n _ _ (big32 _) (big32 _)] at this
    exact this
  · have := refLittle_any 0 W
    rw [nv_zero] at this
    exact this
  · have := shared_u (mkS (bgL 74756868917217338918917584016587037124861727485050470800130516242174941895364)) (mkS (ltL 0)) (m32 _ (big32 _)) (m32 _ (lit32 _)) W
    rw [zE_n] at this
    exact this
end Go.Proofs.Ytpigofooblmdhaa
/- A walk of XdhBits. -/
set_option linter.all false
set_option maxRecDepth 100000
namespace Go.Proofs.Ytpigofooblmdhaa
open Go.RowKit Go.Sort
theorem wp_abs {P : Program} {c : Code} {Q : Exit → Act → World → Prop} {a : Act} {w W : World} (hB : Below w.heap.size w W) (h : ∀ W', Below w.heap.size w W' → Code.wp P c Q a W') : Code.wp P c Q a W := h W hB
set_option maxHeartbeats 8000000 in
theorem xb_core (k u S tt sx sy sz m mu s1 j v : ByteArray) (M N bo l a0 a31 c31 p0 p1 p2 x y z : Int) (hk : k.size = 32) (hu : u.size = 32) (w : World)
    (I0 : ∀ W, (Instr.index 9 (.string k) (.int .i64 0)).run Try.prog W = .ok (.int .u8 a0) W)
    (I1 : ∀ W, (Instr.index 9 (.string k) (.int .i64 31)).run Try.prog W = .ok (.int .u8 a31) W)
    (I2 : ∀ W, (Instr.index 9 (.string u) (.int .i64 31)).run Try.prog W = .ok (.int .u8 c31) W)
    (e0 : bits .and .u8 a0 248 = p0) (e1 : bits .and .u8 l 7 = p1) (e2 : bits .or .u8 p0 p1 = x) (e3 : bits .and .u8 l 128 = p2) (e4 : bits .xor .u8 a31 p2 = y) (e5 : bits .xor .u8 c31 p2 = z)
    (S1 : ∀ W, (Instr.slice 9 (.string k) (some (.int .i64 1)) (some (.int .i64 31)) none).run Try.prog W = .ok (.string m) W)
    (S2 : ∀ W, (Instr.slice 9 (.string u) none (some (.int .i64 31)) none).run Try.prog W = .ok (.string mu) W)
    (V1 : ∀ W g, W.cell? ⟨g, 0, none⟩ = some (.int .u8 x) → (convert 43 9 (.slice (some ⟨g, 0, none⟩) 1 1)).run Try.prog W = .ok (.string sx) W)
    (V2 : ∀ W g, W.cell? ⟨g, 0, none⟩ = some (.int .u8 y) → (convert 43 9 (.slice (some ⟨g, 0, none⟩) 1 1)).run Try.prog W = .ok (.string sy) W)
    (V3 : ∀ W g, W.cell? ⟨g, 0, none⟩ = some (.int .u8 z) → (convert 43 9 (.slice (some ⟨g, 0, none⟩) 1 1)).run Try.prog W = .ok (.string sz) W)
    (P1 : ∀ W, (Op.stringOp .add sx m).run Try.prog W = .ok (.string s1) W)
    (P2 : ∀ W, (Op.stringOp .add s1 sy).run Try.prog W = .ok (.string j) W)
    (P3 : ∀ W, (Op.stringOp .add mu sz).run Try.prog W = .ok (.string v) W)
    (CR1 : ∀ W, Calls Try.prog 42 #[.string k, .string u] W fun e w' => e = .returned (.tuple #[.string S, .int .i64 0]) ∧ Below W.heap.size W w')
    (CR2 : ∀ W, Calls Try.prog 42 #[.string j, .string v] W fun e w' => e = .returned (.tuple #[.string S, .int .i64 0]) ∧ Below W.heap.size W w')
    (CF : ∀ W, Calls Try.prog 13 #[.string u] W fun e w' => e = .returned (.tuple #[nv N, .int .i64 0]) ∧ Below W.heap.size W w')
    (q0 : lim N 0 = lim M 0) (q1 : lim N 1 = lim M 1) (q2 : lim N 2 = lim M 2) (q3 : bits .and .u64 (lim N 3) 9223372036854775807 = lim M 3)
    (hcase : (¬ lim M 0 < 19) ∨ (lim M 0 < 19 ∧ ¬ lim M 1 = 0) ∨ (lim M 0 < 19 ∧ lim M 1 = 0 ∧ ¬ lim M 2 = 0) ∨ (lim M 0 < 19 ∧ lim M 1 = 0 ∧ lim M 2 = 0 ∧ ¬ lim M 3 = 0) ∨
      (lim M 0 < 19 ∧ lim M 1 = 0 ∧ lim M 2 = 0 ∧ lim M 3 = 0 ∧ (∀ W, Calls Try.prog 47 #[.agg #[.int .u64 (lim M 0), .int .u64 0, .int .u64 0, .int .u64 0], .agg #[.int .u64 18446744073709551597, .int .u64 18446744073709551615, .int .u64 18446744073709551615, .int .u64 9223372036854775807]] W fun e w' => e = .returned (.tuple #[nv (M + pp), .int .u64 bo]) ∧ Below W.heap.size W w') ∧
        (∀ W, Calls Try.prog 19 #[nv (M + pp)] W fun e w' => e = .returned (.string tt) ∧ Below W.heap.size W w') ∧
        (∀ W, Calls Try.prog 42 #[.string k, .string tt] W fun e w' => e = .returned (.tuple #[.string S, .int .i64 0]) ∧ Below W.heap.size W w'))) :
    Calls Try.prog 7 #[.string k, .string u, .int .u8 l] w fun e w' => e = .returned (.bool true) ∧ Below w.heap.size w w' := by
  have hk' : (k.size : Int) = 32 := by omega
  have hu' : (u.size : Int) = 32 := by omega
  go_enter Try.func7, Try.ntmps7
  go_wp2_with fail
  go_region
  all_goals
    go_wp2_with fail
    refine wp_abs (w := w) (by go_grown) (fun wA hA => ?_)
    clear S1 V1 V2 P1 P2 I0 I1 e0 e1 e2 e4
    have hSA := hA.size
    go_region
    go_wp2_with fail
    refine (CR1 _).mono ?_
    rintro e w1 ⟨rfl, hb⟩
    have hB := Bel.call ((Bel.al hA (.cells #[.int .u8 z] 5)).drew) hb
    clear hb hA hSA CR1 S2 V3 P3 I2 e3 e5
    go_wp2_with fail
    refine (CR2 _).mono ?_
    rintro e w2 ⟨rfl, hb⟩
    have hB2 := Bel.call hB hb
    clear hb hB CR2
    go_wp2_with fail
    refine (CF _).mono ?_
    rintro e w3 ⟨rfl, hb⟩
    have hB3 := Bel.call hB2 hb
    have hS3 := hB3.size
    clear hb hB2 CF
    rcases hcase with h | ⟨h1, h⟩ | ⟨h1, h2, h⟩ | ⟨h1, h2, h3, h⟩ | ⟨h1, h2, h3, h4, CA, CL, CR⟩
    iterate 3
      · go_wp2_with fail
        refine (awake3 _).mono ?_
        rintro e w4 ⟨rfl, hb⟩
        have hB4 := Bel.call (Bel.al hB3 _) hb
        go_wp2_with fail
        go_returns
        exact ⟨rfl, hB4⟩
    · have h' : (lim M 3 != 0) = true := by simpa using h
      go_wp2_with fail
      refine (awake3 _).mono ?_
      rintro e w4 ⟨rfl, hb⟩
      have hB4 := Bel.call (Bel.al hB3 _) hb
      go_wp2_with fail
      go_returns
      exact ⟨rfl, hB4⟩
    · go_wp2_with fail
      refine (CA _).mono ?_
      rintro e w4 ⟨rfl, hb⟩
      have hB4 := Bel.call (Bel.al hB3 _) hb
      clear hb hB3 CA
      go_wp2_with fail
      refine (CL _).mono ?_
      rintro e w5 ⟨rfl, hb⟩
      have hB5 := Bel.call (Bel.al hB4 _) hb
      clear hb hB4 CL
      go_wp2_with fail
      refine (CR _).mono ?_
      rintro e w6 ⟨rfl, hb⟩
      have hB6 := Bel.call hB5 hb
      clear hb hB5 CR
      go_wp2_with fail
      refine (awake3 _).mono ?_
      rintro e w7 ⟨rfl, hb⟩
      have hB7 := Bel.call hB6 hb
      clear hb hB6
      go_wp2_with fail
      go_returns
      exact ⟨rfl, hB7⟩
end Go.Proofs.Ytpigofooblmdhaa
set_option linter.all false
set_option maxRecDepth 100000
namespace Go.Proofs.Ytpigofooblmdhaa
open Go.ChangeShapes Go.WideShapes Go.ChangeAt Go.RowKit
open Go.ChangeMaps (open_string shut_string)
theorem byd0 (z : Int) (h0 : 0 ≤ z) (h1 : z < 256) : bits .and .u8 z 248 = z / 8 * 8 := by
  have k : ∀ q : Fin 256, bits .and .u8 ((q.val : Nat) : Int) 248 = ((q.val : Nat) : Int) / 8 * 8 := by decide +kernel
  have := k ⟨z.toNat, by omega⟩
  rw [show ((z.toNat : Nat) : Int) = z by omega] at this; exact this
theorem byd1 (z : Int) (h0 : 0 ≤ z) (h1 : z < 256) : bits .and .u8 z 7 = z % 8 := by
  have k : ∀ q : Fin 256, bits .and .u8 ((q.val : Nat) : Int) 7 = ((q.val : Nat) : Int) % 8 := by decide +kernel
  have := k ⟨z.toNat, by omega⟩
  rw [show ((z.toNat : Nat) : Int) = z by omega] at this; exact this
theorem byd2 (z : Int) (h0 : 0 ≤ z) (h1 : z < 256) : bits .and .u8 z 128 = z / 128 * 128 := by
  have k : ∀ q : Fin 256, bits .and .u8 ((q.val : Nat) : Int) 128 = ((q.val : Nat) : Int) / 128 * 128 := by decide +kernel
  have := k ⟨z.toNat, by omega⟩
  rw [show ((z.toNat : Nat) : Int) = z by omega] at this; exact this
theorem byd3 (q r : Int) (h0 : 0 ≤ q) (h1 : q < 32) (g0 : 0 ≤ r) (g1 : r < 8) : bits .or .u8 (q * 8) r = q * 8 + r := by
  have k : ∀ q : Fin 32, ∀ r : Fin 8, bits .or .u8 (((q.val : Nat) : Int) * 8) ((r.val : Nat) : Int) = ((q.val : Nat) : Int) * 8 + ((r.val : Nat) : Int) := by decide +kernel
  have := k ⟨q.toNat, by omega⟩ ⟨r.toNat, by omega⟩
  rw [show ((q.toNat : Nat) : Int) = q by omega, show ((r.toNat : Nat) : Int) = r by omega] at this; exact this
theorem byd4 (z : Int) (h0 : 0 ≤ z) (h1 : z < 256) : bits .xor .u8 z 0 = z ∧ bits .xor .u8 z 128 = (z + 128) % 256 := by
  have k : ∀ q : Fin 256, bits .xor .u8 ((q.val : Nat) : Int) 0 = ((q.val : Nat) : Int) ∧ bits .xor .u8 ((q.val : Nat) : Int) 128 = (((q.val : Nat) : Int) + 128) % 256 := by decide +kernel
  have := k ⟨z.toNat, by omega⟩
  rw [show ((z.toNat : Nat) : Int) = z by omega] at this; exact this
theorem bt_app (a b : ByteArray) (i : Nat) : bt (a ++ b) i = if i < a.size then bt a i else bt b (i - a.size) := by
  unfold bt
  rw [ByteArray.data_append, Array.getElem?_append]
  have e : a.data.size = a.size := rfl
  rw [e]
  split <;> rfl
theorem bt_ext (a : ByteArray) (s e i : Nat) (h : i < e - s) (he : e ≤ a.size) : bt (a.extract s e) i = bt a (s + i) := by
  unfold bt
  have z : a.data.size = a.size := rfl
  rw [ByteArray.data_extract, Array.getElem?_extract, if_pos (by omega)]
theorem ext_size (a : ByteArray) (s e : Nat) (he : e ≤ a.size) : (a.extract s e).size = e - s := by
  rw [ByteArray.size_extract]; omega
theorem app_size (a b : ByteArray) : (a ++ b).size = a.size + b.size := ByteArray.size_append
theorem one_size (x : Int) : (mkS [x]).size = 1 := by rw [mkS_size]; rfl
theorem one_bt (x : Int) (h0 : 0 ≤ x) (h1 : x < 256) : bt (mkS [x]) 0 = x := mkS_bt [x] 0 x rfl h0 h1
/-- The number of 32 bytes, by its first and its last. -/
theorem fl_parts (s : ByteArray) (hs : s.size = 32) : flN s = bt s 31 * 452312848583266388373324160190187140051835877600158453279131187530910662656 + pn 8 (fun i => bt s (30 - i)) 30 * 256 + bt s 0 := by
  unfold flN
  rw [if_pos hs]
  have a := pn_first 8 (fun i => bt s (31 - i)) 31
  rw [show 31 + 1 = 32 from rfl] at a
  rw [a]
  have b : pn 8 (sh (fun i => bt s (31 - i)) 1) 31 = pn 8 (sh (fun i => bt s (31 - i)) 1) 30 * 2 ^ 8 + bt s 0 := rfl
  rw [b]
  have c : pn 8 (sh (fun i => bt s (31 - i)) 1) 30 = pn 8 (fun i => bt s (30 - i)) 30 := pn_congr 8 _ _ 30 fun i hi => by
    show bt s (31 - (1 + i)) = bt s (30 - i)
    congr 1; omega
  rw [c, show (2 : Int) ^ (8 * 31) = 452312848583266388373324160190187140051835877600158453279131187530910662656 by decide, show (2 : Int) ^ 8 = 256 by decide]
  rw [show (31 - 0 : Nat) = 31 from rfl]
  omega
theorem cl_same {a b c d m : Int} (ha : a / 8 = b / 8) (hc : c % 128 = d % 128) : cl (c * 452312848583266388373324160190187140051835877600158453279131187530910662656 + m * 256 + a) = cl (d * 452312848583266388373324160190187140051835877600158453279131187530910662656 + m * 256 + b) := by
  unfold cl; omega
theorem c5_same {a c d m : Int} (hc : c % 128 = d % 128) : c5 (c * 452312848583266388373324160190187140051835877600158453279131187530910662656 + m * 256 + a) = c5 (d * 452312848583266388373324160190187140051835877600158453279131187530910662656 + m * 256 + a) := by
  unfold c5; omega
theorem xor_low (z l : Int) (h0 : 0 ≤ z) (h1 : z < 256) (g0 : 0 ≤ l) (g1 : l < 256) : 0 ≤ bits .xor .u8 z (bits .and .u8 l 128) ∧ bits .xor .u8 z (bits .and .u8 l 128) < 256 ∧ bits .xor .u8 z (bits .and .u8 l 128) % 128 = z % 128 := by
  rw [byd2 l g0 g1]
  have h : l / 128 = 0 ∨ l / 128 = 1 := by omega
  obtain ⟨x0, x1⟩ := byd4 z h0 h1
  rcases h with h | h <;> rw [h]
  · rw [show (0 : Int) * 128 = 0 by omega, x0]; omega
  · rw [show (1 : Int) * 128 = 128 by omega, x1]; omega
theorem mix_low (z l : Int) (h0 : 0 ≤ z) (h1 : z < 256) (g0 : 0 ≤ l) (g1 : l < 256) : 0 ≤ bits .or .u8 (bits .and .u8 z 248) (bits .and .u8 l 7) ∧ bits .or .u8 (bits .and .u8 z 248) (bits .and .u8 l 7) < 256 ∧ bits .or .u8 (bits .and .u8 z 248) (bits .and .u8 l 7) / 8 = z / 8 := by
  rw [byd0 z h0 h1, byd1 l g0 g1, byd3 (z / 8) (l % 8) (by omega) (by omega) (by omega) (by omega)]
  omega
theorem fl_back (N : Int) (h0 : 0 ≤ N) (h1 : N < top256) : flN (mkS (ltL N)) = N := by rw [flN_little]; exact pn_all N h0 h1
theorem cvt1 (x : Int) (W : World) (g : Nat) (h : W.cell? ⟨g, 0, none⟩ = some (.int .u8 x)) : (convert 43 9 (.slice (some ⟨g, 0, none⟩) 1 1)).run Try.prog W = .ok (.string (mkS [x])) W :=
  convG W g 1 [x] rfl (fun j hj => by
    have e : j = 0 := by omega
    subst e; exact h)
set_option maxHeartbeats 1000000 in
theorem xb_any (k u : ByteArray) (l : Int) (hk : k.size = 32) (hu : u.size = 32) (g0 : 0 ≤ l) (g1 : l < 256) (w : World) :
    Calls Try.prog 7 #[.string k, .string u, .int .u8 l] w fun e w' => e = .returned (.bool true) ∧ Below w.heap.size w w' := by
  have m32 : ∀ s : ByteArray, s.size = 32 → s.size ≤ maxLen := fun s h => by rw [h]; decide
  obtain ⟨x0, x1, x2⟩ := mix_low (bt k 0) l (bt_bd k 0).1 (bt_bd k 0).2 g0 g1
  obtain ⟨y0, y1, y2⟩ := xor_low (bt k 31) l (bt_bd k 31).1 (bt_bd k 31).2 g0 g1
  obtain ⟨z0, z1, z2⟩ := xor_low (bt u 31) l (bt_bd u 31).1 (bt_bd u 31).2 g0 g1
  generalize hx : bits .or .u8 (bits .and .u8 (bt k 0) 248) (bits .and .u8 l 7) = x at *
  generalize hy : bits .xor .u8 (bt k 31) (bits .and .u8 l 128) = y at *
  generalize hz : bits .xor .u8 (bt u 31) (bits .and .u8 l 128) = z at *
  have sk := ext_size k 1 31 (by omega)
  have su := ext_size u 0 31 (by omega)
  have sx := one_size x
  have sy := one_size y
  have sz := one_size z
  have s1 : (mkS [x] ++ k.extract 1 31).size = 31 := by rw [app_size]; omega
  have sj : (mkS [x] ++ k.extract 1 31 ++ mkS [y]).size = 32 := by rw [app_size]; omega
  have sv : (u.extract 0 31 ++ mkS [z]).size = 32 := by rw [app_size]; omega
  have j0 : bt (mkS [x] ++ k.extract 1 31 ++ mkS [y]) 0 = x := by rw [bt_app, if_pos (by omega), bt_app, if_pos (by omega), one_bt x x0 x1]
  have j31 : bt (mkS [x] ++ k.extract 1 31 ++ mkS [y]) 31 = y := by rw [bt_app, if_neg (by omega), s1, one_bt y y0 y1]
  have jm : ∀ i, 1 ≤ i → i < 31 → bt (mkS [x] ++ k.extract 1 31 ++ mkS [y]) i = bt k i := fun i h1 h2 => by
    rw [bt_app, if_pos (by omega), bt_app, if_neg (by omega), sx, bt_ext k 1 31 (i - 1) (by omega) (by omega), show 1 + (i - 1) = i by omega]
  have v31 : bt (u.extract 0 31 ++ mkS [z]) 31 = z := by rw [bt_app, if_neg (by omega), su, one_bt z z0 z1]
  have vm : ∀ i, i < 31 → bt (u.extract 0 31 ++ mkS [z]) i = bt u i := fun i h => by
    rw [bt_app, if_pos (by omega), bt_ext u 0 31 i (by omega) (by omega), Nat.zero_add]
  have ek : cl (flN (mkS [x] ++ k.extract 1 31 ++ mkS [y])) = cl (flN k) := by
    rw [fl_parts _ sj, fl_parts k hk, j0, j31, pn_congr 8 (fun i => bt (mkS [x] ++ k.extract 1 31 ++ mkS [y]) (30 - i)) (fun i => bt k (30 - i)) 30 (fun i hi => jm (30 - i) (by omega) (by omega))]
    exact cl_same x2 y2
  have eu : c5 (flN (u.extract 0 31 ++ mkS [z])) = c5 (flN u) := by
    rw [fl_parts _ sv, fl_parts u hu, v31, vm 0 (by omega), pn_congr 8 (fun i => bt (u.extract 0 31 ++ mkS [z]) (30 - i)) (fun i => bt u (30 - i)) 30 (fun i hi => vm (30 - i) (by omega))]
    exact c5_same z2
  have er : rawS (mkS [x] ++ k.extract 1 31 ++ mkS [y]) (u.extract 0 31 ++ mkS [z]) = rawS k u := by
    unfold rawS; rw [if_pos ⟨sj, sv⟩, if_pos ⟨hk, hu⟩, ek, eu]
  have ik := fun W => idxS k 0 (by omega) W
  have ik31 := fun W => idxS k 31 (by omega) W
  have iu31 := fun W => idxS u 31 (by omega) W
  have qs := c5_lims (flN u)
  have cfl : ∀ W, Calls Try.prog 13 #[.string u] W fun e w' => e = .returned (.tuple #[nv (flN u), .int .i64 0]) ∧ Below W.heap.size W w' := fun W => by
    have := refFromLittle_u u (m32 u hu) W
    rw [lenE_yes (by omega)] at this
    exact this
  have cr1 : ∀ W, Calls Try.prog 42 #[.string k, .string u] W fun e w' => e = .returned (.tuple #[.string (rawS k u), .int .i64 0]) ∧ Below W.heap.size W w' := fun W => by
    have := raw_u k u (m32 k hk) (m32 u hu) W
    rw [rE_n k u hk hu] at this
    exact this
  have cr2 : ∀ W, Calls Try.prog 42 #[.string (mkS [x] ++ k.extract 1 31 ++ mkS [y]), .string (u.extract 0 31 ++ mkS [z])] W fun e w' => e = .returned (.tuple #[.string (rawS k u), .int .i64 0]) ∧ Below W.heap.size W w' := fun W => by
    have := raw_u _ _ (m32 _ sj) (m32 _ sv) W
    rw [rE_n _ _ sj sv, er] at this
    exact this
  refine xb_core k u (rawS k u) (mkS (ltL (c5 (flN u) + pp))) (mkS [x]) (mkS [y]) (mkS [z]) (k.extract 1 31) (u.extract 0 31) (mkS [x] ++ k.extract 1 31) _ _ (c5 (flN u)) (flN u) (cy (c5 (flN u)) pp 4) l (bt k 0) (bt k 31) (bt u 31) _ _ _ x y z hk hu w
    ik ik31 iu31 rfl rfl hx rfl hy hz ?_ ?_ (fun W g h => cvt1 x W g h) (fun W g h => cvt1 y W g h) (fun W g h => cvt1 z W g h)
    (fun W => adds _ _ (by omega) (by omega) W) (fun W => adds _ _ (by omega) (by omega) W) (fun W => adds _ _ (by omega) (by omega) W) cr1 cr2 cfl qs.1.symm qs.2.1.symm qs.2.2.1.symm (by rw [b_and63 _ (lim_nn _ _) (lim_lt _ _), qs.2.2.2]) ?_
  · intro W
    rw [run_slice_string W 9 k .i64 .i64 1 31 Try.underlying9 (by omega) (by omega) (by omega)]
    rfl
  · intro W
    rw [run_slice_string_h (t := 9) (s := u) (w := W) Try.underlying9 .i64 31 (by omega) (by omega)]
    rfl
  · by_cases h0 : lim (c5 (flN u)) 0 < 19
    · by_cases h1 : lim (c5 (flN u)) 1 = 0
      · by_cases h2 : lim (c5 (flN u)) 2 = 0
        · by_cases h3 : lim (c5 (flN u)) 3 = 0
          · refine .inr (.inr (.inr (.inr ⟨h0, h1, h2, h3, fun W => ?_, fun W => refLittle_any _ W, fun W => ?_⟩)))
            · have := refAdd_raw (c5 (flN u)) pp W
              rw [nv_pp] at this
              simp only [nv, h1, h2, h3] at this
              exact this
            · have v4 := V4_lim (c5 (flN u)) (inn_c5 _).1 (inn_c5 _).2
              unfold V4 at v4
              rw [h1, h2, h3] at v4
              have b0 := lim_nn (c5 (flN u)) 0
              have t0 : 0 ≤ c5 (flN u) + pp := by unfold pp; omega
              have t1 : c5 (flN u) + pp < 57896044618658097711785492504343953926634992332820282019728792003956564819968 := by unfold pp; omega
              have := raw_u k (mkS (ltL (c5 (flN u) + pp))) (m32 k hk) (m32 _ (lit32 _)) W
              rw [rE_n _ _ hk (lit32 _)] at this
              have e : rawS k (mkS (ltL (c5 (flN u) + pp))) = rawS k u := by
                unfold rawS
                rw [if_pos ⟨hk, lit32 _⟩, if_pos ⟨hk, hu⟩, fl_back _ t0 (by unfold top256; omega)]
                have e5 : c5 (c5 (flN u) + pp) = c5 (flN u) + pp := by
                  show (c5 (flN u) + pp) % 57896044618658097711785492504343953926634992332820282019728792003956564819968 = _
                  exact Int.emod_eq_of_lt t0 t1
                rw [e5, Int.add_emod_right]
              rw [e] at this
              exact this
          · exact .inr (.inr (.inr (.inl ⟨h0, h1, h2, h3⟩)))
        · exact .inr (.inr (.inl ⟨h0, h1, h2⟩))
      · exact .inr (.inl ⟨h0, h1⟩)
    · exact .inl h0
theorem wf8 {n : Int} (h : (Lit.int .u8 n).wf = true) : 0 ≤ n ∧ n < 256 := by
  have a : IntKind.u8.min = 0 := by decide
  have b : IntKind.u8.max = 255 := by decide
  simp [Lit.wf, a, b] at h
  omega
set_option maxHeartbeats 2000000 in
theorem xb_oth (k u : ByteArray) (l : Int) (hk : k.size ≤ maxLen) (hu : u.size ≤ maxLen) (h : ¬ (k.size = 32 ∧ u.size = 32)) (w : World) :
    Calls Try.prog 7 #[.string k, .string u, .int .u8 l] w fun e w' => e = .returned (.bool true) ∧ Below w.heap.size w w' := by
  unfold maxLen at hk hu
  by_cases h1 : k.size = 32
  · have h2 : ¬ (u.size : Int) = 32 := by omega
    have h1' : (k.size : Int) = 32 := by omega
    have h2' : ((u.size : Int) != 32) = true := by simpa using h2
    go_enter Try.func7, Try.ntmps7
    go_wp2_with fail
    refine (awake3 _).mono ?_
    rintro e w1 ⟨rfl, hb⟩
    go_wp2_with fail
    go_returns
    exact ⟨rfl, hb⟩
  · have h1' : ¬ (k.size : Int) = 32 := by omega
    have h2' : ((k.size : Int) != 32) = true := by simpa using h1'
    go_enter Try.func7, Try.ntmps7
    go_wp2_with fail
    refine (awake3 _).mono ?_
    rintro e w1 ⟨rfl, hb⟩
    go_wp2_with fail
    go_returns
    exact ⟨rfl, hb⟩
theorem xb_all (k u : ByteArray) (l : Int) (hk : k.size ≤ maxLen) (hu : u.size ≤ maxLen) (g0 : 0 ≤ l) (g1 : l < 256) (w : World) :
    Calls Try.prog 7 #[.string k, .string u, .int .u8 l] w fun e w' => e = .returned (.bool true) ∧ Below w.heap.size w w' := by
  by_cases h : k.size = 32 ∧ u.size = 32
  · exact xb_any k u l h.1 h.2 g0 g1 w
  · exact xb_oth k u l hk hu h w
set_option maxRecDepth 100000 in
theorem lifted7 (os : Os) (started : os.Started) (H : Type) (enc : TypeId × Value → H) :
    ReturnsInHanded {} Try.checked os 7 .any (Rows.xdhBitsSpec.pre6 enc Try.prog Try.f7 Rows.xdhBitsRow.domain false) (Rows.xdhBitsSpec.post enc Try.prog Try.f7 false true false false) := by
  refine returnsInHanded_of_change (C := Try.checked) own started (by kernel_rfl) Try.func7
    (ChangeSpec.witness6 (enc := enc) (C := Try.checked) false ⟨#[], #[.string ⟨#[]⟩, .string ⟨#[]⟩, .int .u8 0], []⟩ 8 (by kernel_rfl) (by kernel_rfl) (by kernel_rfl) (by kernel_rfl)) ?_
  intro W base args ds gs before hval0 hW hcnd _
  have hval : ∀ (j : Nat) t v, Try.f7.params[j]? = some t → args[j]? = some v → Value.okWide Try.prog W .any base t v := hval0
  have hW' := hW
  obtain ⟨p, q, hA0, hV, rfl, hfz, hnd⟩ := hW
  have hA : DataW.TrodAll enc Try.prog W 0 (fun _ => true) true Try.f7.params.toList args.toList ds p := hA0
  rw [Try.params7] at hA hval
  obtain ⟨v0, vs0, d0, ds0, p0, q0, hargs, rfl, rfl, h0, r0⟩ := trodAll_cons hA
  obtain ⟨v1, vs1, d1, ds1, p1, q1, rfl, rfl, rfl, h1, r1⟩ := trodAll_cons r0
  obtain ⟨v2, vs2, d2, ds2, p2, q2, rfl, rfl, rfl, h2, r2⟩ := trodAll_cons r1
  obtain ⟨rfl, rfl, rfl⟩ := trodAll_nil r2
  obtain rfl : args = #[v0, v1, v2] := by cases args; simp_all
  obtain ⟨rfl, rfl⟩ := trodVars_none hV
  have k0 := h0
  have k1 := h1
  have k2 := h2
  have lt0 : ∀ x ∈ p0, x.block < W.heap.size := by obtain ⟨m, hm⟩ := k0; exact DataW.trod_lt m _ _ _ hm
  have lt1 : ∀ x ∈ p1, x.block < W.heap.size := by obtain ⟨m, hm⟩ := k1; exact DataW.trod_lt m _ _ _ hm
  have lt2 : ∀ x ∈ p2, x.block < W.heap.size := by obtain ⟨m, hm⟩ := k2; exact DataW.trod_lt m _ _ _ hm
  obtain ⟨S0, rfl, rfl, rfl, hs0⟩ := open_string Try.underlying9 (hval 0 9 v0 rfl rfl) h0
  obtain ⟨S1, rfl, rfl, rfl, hs1⟩ := open_string Try.underlying9 (hval 1 9 v1 rfl rfl) h1
  obtain ⟨N2, rfl, rfl, rfl, w2⟩ := open_int Try.underlying5 (hval 2 5 v2 rfl rfl) h2
  have n2 := wf8 w2
  clear hA0 hval0
  refine (xb_all S0 S1 N2 hs0 hs1 n2.1 n2.2 W).mono fun e W' ⟨he, bel⟩ => ?_
  subst he
  exact ⟨_, rfl, _, _, _, [], _, [], hW', trodAll_mk1 (shut_bool Try.underlying4 _), (trodAll_cons_mk (Below.trod laidOut (by kernel_rfl) (of_decide_eq_true (by kernel_rfl)) k0 bel lt0) (trodAll_cons_mk (Below.trod laidOut (by kernel_rfl) (of_decide_eq_true (by kernel_rfl)) k1 bel lt1) (trodAll_cons_mk (Below.trod laidOut (by kernel_rfl) (of_decide_eq_true (by kernel_rfl)) k2 bel lt2) trodAll_mk0))), rfl, bel.frame _, fun h => by cases h⟩
theorem xdhBits_holds : Rows.XdhBitsSaid :=
  OpenClaim.holds_of_wide 7 Try.f7 rfl rfl rfl rfl rfl rfl rfl ⟨rfl, rfl, rfl, rfl, rfl⟩ rfl rfl rfl rfl rfl (by kernel_rfl) Try.func7 (by kernel_rfl)
    (of_decide_eq_true (by kernel_rfl)) (by unfold Func.isWrapper; rw [if_neg (of_decide_eq_false (by kernel_rfl))]; exact ⟨rfl, rfl⟩)
    (fun os started H enc _ => lifted7 os started H enc)
#print axioms xdhBits_holds
end Go.Proofs.Ytpigofooblmdhaa
