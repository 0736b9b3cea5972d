/- Texts joined: N17, N18, T1, M8, T2, T3, T4, T5. -/
import Derived.Deep.MidRow
import Derived.Deep.Cut
import Derived.Deep.RegionLaw
import Derived.Laws.BytesString
import Derived.Laws.MakeOwn
import Derived.Laws.MathBits
import Derived.Deep.WholeRow
import Derived.Laws.IdiomStrings
import Derived.Test.YtpigofooblmdhaaB1
import Derived.Test.YtpigofooblmdhaaM3
import Derived.Test.YtpigofooblmdhaaN4
import Derived.Test.YtpigofooblmdhaaN6
import Derived.Test.YtpigofooblmdhaaM1
/- What num.bigBytes answers: a number's 32 bytes, the highest first. -/
set_option linter.all false
namespace Go.Proofs.Ytpigofooblmdhaa
open Go.RowKit
/-- The i-th byte, from the highest on. -/
def byt (N : Int) (i : Nat) : Int := N / 2 ^ (8 * (31 - i)) % 256
theorem byt_bd (N : Int) (i : Nat) : 0 ≤ byt N i ∧ byt N i < 256 := by unfold byt; omega
theorem byt_win (N : Int) (i : Nat) (hi : i < 32) : IntKind.u8.wrap (win N (8 * (31 - (i : Int)))) = byt N i := by
  rw [IntKind.wrap_u8]
  unfold win byt
  rw [if_pos (by omega)]
  have e : (8 * (31 - (i : Int))).toNat = 8 * (31 - i) := by omega
  rw [e]; omega
def bytsL (N : Int) : List Value := (List.range 32).map fun j => .int .u8 (byt N j)
theorem bytsL_len (N : Int) : (bytsL N).length = 32 := by simp [bytsL]
theorem bytsL_at (N : Int) (j : Nat) (hj : j < 32) : (bytsL N)[j]? = some (.int .u8 (byt N j)) := by simp [bytsL, hj]
theorem Arr.range {w : World} {b n : Nat} {f : Nat → Value} (h : Arr w b n f) (cs : List Value) (hl : cs.length = n) (hc : ∀ j, j < n → cs[j]? = some (f j)) : w.rangeAt b 0 cs := fun j v hv => by
  have hj : j < n := by rw [← hl]; exact (List.getElem?_eq_some_iff.1 hv).1
  rw [Nat.zero_add, (h j hj).1, ← hc j hj]; exact hv
theorem Arr.there {w : World} {b n : Nat} {f : Nat → Value} (h : Arr w b n f) : w.there b 0 n := fun j hj => by
  rw [Nat.zero_add]
  exact ⟨by rw [(h j hj).1]; rfl, (h j hj).2⟩
theorem Arr.of_range {w : World} {b n : Nat} {f : Nat → Value} {cs : List Value} (h : w.rangeAt b 0 cs) (hc : ∀ j, j < n → cs[j]? = some (f j)) (z : ∀ j, j < n → w.frozen? ⟨b, j, none⟩ = false) : Arr w b n f := fun j hj => by
  have := h j _ (hc j hj)
  rw [Nat.zero_add] at this
  exact ⟨this, z j hj⟩
theorem Try.info57 : (Try.prog.info? 57).map (·.size) = some 32 := by kernel_rfl
theorem bytsL_one (N : Int) : ∀ v ∈ bytsL N, v.oneCell' = true := by
  intro v hv
  simp only [bytsL, List.mem_map] at hv
  obtain ⟨j, _, rfl⟩ := hv
  rfl
theorem zeros32 (j : Nat) (hj : j < 32) : (List.replicate 32 (Value.int .u8 0)).toArray[j]? = some (.int .u8 0) := by
  rw [List.getElem?_toArray, List.getElem?_replicate, if_pos hj]
theorem below_setCells {B : Nat} {a w : World} (h : Below B a w) {b : Nat} (hb : B ≤ b) : ∀ (vs : List Value) (o : Nat), Below B a (w.setCells b o vs) := by
  intro vs
  induction vs generalizing w with
  | nil => intro o; exact h
  | cons v r ih => intro o; rw [World.setCells]; exact ih (h.setCell hb _) (o + 1)
theorem results_cell1 {P : Program} {fn : Func} {p : Tmp} {ty : TypeId} {a : Addr} {v : Value} {w : World} (h : fn.results = #[.cell p ty]) (tmps : Array Value) (hp : tmps.getD p undef = .pointer (some a)) (hl : (loadVar ty a).run P w = .ok v w) :
    (results fn tmps).run P w = .ok v w := by
  have hp' : tmps[p]?.getD undef = .pointer (some a) := by simpa using hp
  simp only [results, h]
  simp [Sem.run_bind, hp', asAddr, hl]
set_option maxHeartbeats 2000000 in
theorem bigBytes_core (N : Int) (hN : 0 ≤ N) (hN' : N < top256) (L : List Value) (hlen : L.length = 32) (hat : ∀ j, j < 32 → L[j]? = some (.int .u8 (byt N j))) (hone : ∀ v ∈ L, v.oneCell' = true) (w : World) :
    Calls Try.prog 55 #[nv N] w fun e w' => e = .returned (.agg L.toArray) ∧ Below w.heap.size w w' := by
  go_enter Try.func55, Try.ntmps55
  go_wp2_with fail
  go_loopw [5] (fun i wr => ∃ k : Nat, k ≤ 32 ∧ i = .int .i64 k ∧ Below w.heap.size w wr ∧ w.heap.size + 1 + 1 < wr.heap.size ∧
      Arr wr w.heap.size 4 (fun j => .int .u64 (lim N j)) ∧ Arr wr (w.heap.size + 1) 32 (fun _ => .int .u8 0) ∧
      Arr wr (w.heap.size + 1 + 1) 32 (fun j => .int .u8 (if j < k then byt N j else 0)))
    (fun i _ => 32 - (intOf i).toNat)
  case atStart =>
    refine ⟨0, by omega, rfl, by go_grown, by go_size, ?_, ?_, ?_⟩
    · refine ((Arr.new _ _ _ _ rfl _ 4 ?_).alloc (by go_size) _).alloc (by go_size) _
      intro j hj
      have : j = 0 ∨ j = 1 ∨ j = 2 ∨ j = 3 := by omega
      rcases this with rfl | rfl | rfl | rfl <;> rfl
    · exact (Arr.new _ _ _ _ (by simp) _ 32 zeros32).alloc (by go_size) _
    · refine Arr.new _ _ _ _ (by simp) _ 32 ?_
      intro j hj
      rw [if_neg (by omega)]
      exact zeros32 j hj
  case round =>
    obtain ⟨k, hk, rfl, hB, hz, A0, A1, A2⟩ := hrel
    have c0 := A0.c
    by_cases hlt : k < 32
    · have k0 : (0 : Int) ≤ (k : Int) := by omega
      have k8 : (k : Int) < 32 := by omega
      have W := fun u => window_any N (8 * (31 - (k : Int))) hN hN' (by omega) (by omega) u
      have bw := byt_win N k hlt
      clear hat hone hlen
      go_wp2_with (go_at_call 81; refine (W _).mono ?_; rintro e w1 ⟨rfl, hb⟩; have A0' := A0.below hb (by omega); have A1' := A1.below hb (by omega); have A2' := A2.below hb hz; have z2 := A2'.z k hlt; have c2 := A2'.c k hlt)
      refine ⟨⟨k + 1, by omega, by go_num, (hB.trans (hb.mono hB.size)).setCell (by show _ ≤ w.heap.size + 1 + 1; omega) _, by rw [size_set]; have := hb.size; omega, A0'.other (by omega) _, A1'.other (by omega) _, ?_⟩, by simp [intOf]; omega⟩
      refine (A2'.set k hlt _).congr ?_
      intro j hj
      by_cases e : j = k
      · subst e; simp
      · simp only [if_neg e]
        by_cases e2 : j < k
        · rw [if_pos e2, if_pos (by omega)]
        · rw [if_neg e2, if_neg (by omega)]
    · have k8 : k = 32 := by omega
      subst k8
      have R2 : wr.rangeAt (w.heap.size + 1 + 1) 0 L := A2.range _ hlen (by intro j hj; rw [if_pos hj]; exact hat j hj)
      have T1 := A1.there
      have sz : L.toArray.size = 32 := by rw [List.size_toArray]; exact hlen
      have h58 : (Try.prog.info? 57).map (·.size) = some L.length := by rw [hlen]; exact Try.info57
      have h58' : (Try.prog.info? 57).map (·.size) = some L.toArray.size := by rw [sz]; exact Try.info57
      have T1' : wr.there (w.heap.size + 1) 0 L.toArray.size := by rw [sz]; exact T1
      have one := all_oneCell_toArray hone
      have R1 : (wr.setCells (w.heap.size + 1) 0 L).rangeAt (w.heap.size + 1) 0 L := World.rangeAt_setCells_same wr _ 0 _ (by rw [hlen]; exact T1)
      have lv := run_loadVar_mid (P := Try.prog) (wr.setCells (w.heap.size + 1) 0 L) (w.heap.size + 1) 0 57 L _ R1 Try.underlying57 rfl h58
      have LV : Hid _ := lv
      have HR2 : Hid _ := R2
      have H58 : Hid _ := h58
      have H58' : Hid _ := h58'
      have HT1 : Hid _ := T1'
      have HO : Hid _ := one
      clear A0 A1 A2 c0 hk T1 R1 lv sz R2 h58 h58' T1' one hat hone hlen
      go_upto_region 7 with (fail)
      refine wp_region_list ?_
      refine wpList_load_mid (by rfl) 57 (.tmp 3) (by rfl) _ _ (by rfl) L _ HR2.out Try.underlying57 rfl H58.out ?_
      refine wpList_store_mid (by rfl) 57 (.tmp 2) (.tmp 17) (by rfl) _ _ _ (by rfl) (by rfl) HT1.out H58'.out HO.out ?_
      refine wpList_nil ?_
      have lv := LV.out
      clear HR2 H58 H58' HT1 HO LV
      go_wp2_with fail
      refine bodyPost_ret (v := .agg L.toArray) (results_cell1 Try.results55 _ (by rfl) lv) rfl ⟨rfl, ?_⟩
      exact below_setCells hB (by omega) _ _
theorem bigBytes_any (N : Int) (hN : 0 ≤ N) (hN' : N < top256) (w : World) :
    Calls Try.prog 55 #[nv N] w fun e w' => e = .returned (.agg (bytsL N).toArray) ∧ Below w.heap.size w w' :=
  bigBytes_core N hN hN' (bytsL N) (bytsL_len N) (bytsL_at N) (bytsL_one N) w
end Go.Proofs.Ytpigofooblmdhaa
/- What num.Text answers: a number's 64 digits. -/
set_option linter.all false
set_option maxRecDepth 100000
namespace Go.Proofs.Ytpigofooblmdhaa
open Go.RowKit
/-- The sign that stands for a digit below 16. -/
def hexc (d : Int) : Int := if d < 10 then 48 + d else 87 + d
/-- The j-th sign of a number's text. -/
def tx (N : Int) (j : Nat) : Int := if j % 2 = 0 then hexc (byt N (j / 2) / 16) else hexc (byt N (j / 2) % 16)
def txL (N : Int) : List Int := (List.range 64).map (tx N)
/-- A number's text. -/
def txS (N : Int) : ByteArray := (txL N).foldl (fun r n => r.push (UInt8.ofNat n.toNat)) ByteArray.empty
theorem hex_idx (d : Int) (h0 : 0 ≤ d) (h1 : d < 16) (W : World) : (Instr.index 9 (.string ⟨#[48, 49, 50, 51, 52, 53, 54, 55, 56, 57, 97, 98, 99, 100, 101, 102]⟩) (.int .u8 d)).run Try.prog W = .ok (.int .u8 (hexc d)) W := by
  have h : d = 0 ∨ d = 1 ∨ d = 2 ∨ d = 3 ∨ d = 4 ∨ d = 5 ∨ d = 6 ∨ d = 7 ∨ d = 8 ∨ d = 9 ∨ d = 10 ∨ d = 11 ∨ d = 12 ∨ d = 13 ∨ d = 14 ∨ d = 15 := by omega
  rcases h with h | h | h | h | h | h | h | h | h | h | h | h | h | h | h | h <;> (rw [h]; rfl)
theorem idx58 (L : List Value) (k : Nat) (v : Int) (hk : k < 32) (hv : L[k]? = some (.int .u8 v)) (W : World) : (Instr.index 57 (.agg L.toArray) (.int .i64 (k : Int))).run Try.prog W = .ok (.int .u8 v) W := by
  have h0 : (0 : Int) ≤ (k : Int) ∧ (k : Int) < ((32 : Nat) : Int) := by omega
  have hs : (Go.sizeOf 5).run Try.prog W = .ok 1 W := by kernel_rfl
  have hv' : L.toArray[k]? = some (.int .u8 v) := by simpa using hv
  simp only [Instr.index, asIntOf, Sem.run_bind, Sem.run_pure, Result.andThen_ok, run_underlying Try.underlying57]
  rw [Sem.run_ite, if_pos h0]
  simp only [Sem.run_bind, hs, Result.andThen_ok, Int.toNat_natCast, Nat.mul_one]
  have ha : (isAgg 5).run Try.prog W = .ok false W := by kernel_rfl
  simp [part, Sem.run_bind, ha, hv']
theorem Try.info5 : (Try.prog.info? 5).map (fun i => (i.zero, i.size, i.bytes)) = some (some (.int .u8 0), 1, 1) := by kernel_rfl
theorem tx_even (N : Int) (k : Nat) : tx N (2 * k) = hexc (byt N k / 16) := by
  unfold tx; rw [if_pos (by omega)]; congr 3; omega
theorem tx_odd (N : Int) (k : Nat) : tx N (2 * k + 1) = hexc (byt N k % 16) := by
  unfold tx; rw [if_neg (by omega)]; congr 3; omega
theorem hexc_bd (d : Int) (h0 : 0 ≤ d) (h1 : d < 16) : 0 ≤ hexc d ∧ hexc d < 256 := by unfold hexc; split <;> omega
theorem made64 : ∃ C : Array Value, C.size = 64 ∧ (∀ j, j < 64 → C[j]? = some (.int .u8 0)) ∧ ∀ W : World, (Instr.makeSlice 43 (.int .i64 0) (.int .i64 64)).run Try.prog W = .ok (.slice (some ⟨W.heap.size, 0, none⟩) 0 64) (W.alloc (.cells C 5)) := by
  obtain ⟨i0, hi, hz0, hz1, hz2⟩ := info_parts Try.info5
  refine ⟨madeCells (Value.int .u8 0).cells (64 * 1), by rw [size_madeCells], ?_, fun W => ?_⟩
  · intro j hj
    simp only [madeCells, Value.cells]
    rw [Array.getElem?_map, Array.getElem?_range, if_pos (by omega)]
    simp [Nat.mod_one]
  · have := run_make (P := Try.prog) W 43 5 i0 (.int .u8 0) Try.underlying43 hi hz0 .i64 .i64 0 64 (by omega) (by omega) (by rw [hz2]; omega) (by omega)
    rw [hz1] at this
    exact this
theorem news2 (wr : World) (x y : Value) : ∀ (j : Nat) (u : Value), ([x, y] : List Value)[j]? = some u → ((wr.alloc (.cells #[x, y] 5)).drew).cell? ((⟨wr.heap.size, 0, none⟩ : Addr).add j) = some u := by
  intro j u h
  rw [Addr.add_mid]
  have hj : j < 2 := (List.getElem?_eq_some_iff.1 h).1
  have hc : j = 0 ∨ j = 1 := by omega
  rcases hc with hc | hc <;> subst hc <;> simp at h <;> subst h <;> simp [go_sem]
theorem set2 {w : World} {b n : Nat} {f : Nat → Value} (h : Arr w b n f) (o : Nat) (ho : o + 1 < n) (x y : Value) : Arr (w.setCells b o [x, y]) b n (fun j => if j = o + 1 then y else if j = o then x else f j) :=
  ((h.set o (by omega) x).set (o + 1) ho y)
theorem conv_text (W : World) (g : Nat) (ns : List Int) (h64 : ns.length = 64) (hc : ∀ j, j < 64 → W.cell? ⟨g, j, none⟩ = some (.int .u8 (ns.getD j 0))) :
    (convert 43 9 (.slice (some ⟨g, 0, none⟩) 64 64)).run Try.prog W = .ok (.string (ns.foldl (fun r n => r.push (UInt8.ofNat n.toNat)) ByteArray.empty)) W := by
  rw [run_convert_bytes_string W 43 9 5 _ 64 64 Try.underlying43 Try.underlying5 Try.underlying9]
  refine run_bytesToString W ⟨g, 0, none⟩ 64 64 ns ?_
  have := run_loadCells_list (P := Try.prog) W ⟨g, 0, none⟩ (ns.map (Value.int .u8)) (by
    intro j v hv
    rw [Addr.add_mid, Nat.zero_add]
    rw [List.getElem?_map] at hv
    obtain ⟨n, hn, rfl⟩ := Option.map_eq_some_iff.1 hv
    have hj : j < 64 := by rw [← h64]; exact (List.getElem?_eq_some_iff.1 hn).1
    rw [hc j hj, List.getD, hn]; rfl)
  rw [List.length_map, h64] at this
  exact this
theorem size_sets (b : Nat) : ∀ (vs : List Value) (o : Nat) (w : World), (w.setCells b o vs).heap.size = w.heap.size
  | [], _, _ => rfl
  | v :: r, o, w => by rw [World.setCells, size_sets b r (o + 1), size_set]
theorem text_rel {N : Int} {w wr : World} {k : Nat} (ca cb : Int) (ob : Obj) (hB : Below w.heap.size w wr) (hz : w.heap.size + 1 < wr.heap.size) (A : Arr wr (w.heap.size + 1) 64 (fun j => .int .u8 (if j < 2 * k then tx N j else 0)))
    (hlt : k < 32) (HA : tx N (2 * k) = ca) (HB : tx N (2 * k + 1) = cb) :
    Below w.heap.size w ((wr.alloc ob).drew.setCells (w.heap.size + 1) (2 * k) [.int .u8 ca, .int .u8 cb]) ∧ w.heap.size + 1 < ((wr.alloc ob).drew.setCells (w.heap.size + 1) (2 * k) [.int .u8 ca, .int .u8 cb]).heap.size ∧
      Arr ((wr.alloc ob).drew.setCells (w.heap.size + 1) (2 * k) [.int .u8 ca, .int .u8 cb]) (w.heap.size + 1) 64 (fun j => .int .u8 (if j < 2 * (k + 1) then tx N j else 0)) := by
  refine ⟨below_setCells ((hB.alloc hB.size _).drew) (by omega) _ _, by rw [size_sets]; go_size, ?_⟩
  refine (set2 ((A.alloc (by omega) _).drew) (2 * k) (by omega) _ _).congr ?_
  intro j hj
  by_cases e1 : j = 2 * k + 1
  · subst e1; rw [if_pos rfl, if_pos (by omega), HB]
  · rw [if_neg e1]
    by_cases e2 : j = 2 * k
    · subst e2; rw [if_pos rfl, if_pos (by omega), HA]
    · rw [if_neg e2]
      by_cases e3 : j < 2 * k
      · rw [if_pos e3, if_pos (by omega)]
      · rw [if_neg e3, if_neg (by omega)]
set_option maxHeartbeats 400000 in
theorem text_core (N : Int) (L : List Value) (C : Array Value) (hat : Hid (∀ j, j < 32 → L[j]? = some (.int .u8 (byt N j)))) (hC : Hid (∀ j, j < 64 → C[j]? = some (.int .u8 0)))
    (mk : ∀ W : World, (Instr.makeSlice 43 (.int .i64 0) (.int .i64 64)).run Try.prog W = .ok (.slice (some ⟨W.heap.size, 0, none⟩) 0 64) (W.alloc (.cells C 5)))
    (BB : ∀ W, Calls Try.prog 55 #[nv N] W fun e w' => e = .returned (.agg L.toArray) ∧ Below W.heap.size W w') (w : World) :
    Calls Try.prog 14 #[nv N] w fun e w' => e = .returned (.string (txS N)) ∧ Below w.heap.size w w' := by
  go_enter Try.func14, Try.ntmps14
  go_wp2_with fail
  refine (BB _).mono ?_
  rintro e w1 ⟨rfl, hb1⟩
  clear mk BB
  have A1 : Arr w1 (w.heap.size + 1) 64 (fun _ => .int .u8 0) := (Arr.new _ _ _ _ (by simp) _ 64 hC.out).below hb1 (by go_size)
  have z1 : w.heap.size + 1 < w1.heap.size := by have := hb1.size; simp at this; omega
  have hB1 : Below w.heap.size w w1 := Below.trans (by go_grown) (hb1.mono (by go_size))
  clear hb1
  go_wp2_with fail
  go_loopw [3, 9] (fun s i wr => ∃ k : Nat, k ≤ 32 ∧ i = .int .i64 k ∧ s = .slice (some ⟨w.heap.size + 1, 0, none⟩) (2 * k) 64 ∧ Below w.heap.size w wr ∧ w.heap.size + 1 < wr.heap.size ∧
      Arr wr (w.heap.size + 1) 64 (fun j => .int .u8 (if j < 2 * k then tx N j else 0)))
    (fun _ i _ => 32 - (intOf i).toNat)
  case atStart => exact ⟨0, by omega, rfl, rfl, hB1, z1, A1.congr (by intro j hj; rw [if_neg (by omega)])⟩
  case round =>
    clear A1 z1 hB1
    obtain ⟨k, hk, rfl, rfl, hB, hz, A⟩ := hrel
    by_cases hlt : k < 32
    · have k0 : (0 : Int) ≤ (k : Int) := by omega
      have k8 : (k : Int) < 32 := by omega
      have I := fun W => idx58 L k (byt N k) hlt (hat.out k hlt) W
      have bb := byt_bd N k
      have te := tx_even N k
      have to := tx_odd N k
      have d1 := fun W => hex_idx (byt N k / 16) (by omega) (by omega) W
      have d2 := fun W => hex_idx (byt N k % 16) (by omega) (by omega) W
      have a15 := u8_and15 (byt N k) bb.1 bb.2
      rw [← te] at d1
      rw [← to] at d2
      generalize byt N k = v at *
      generalize ha : tx N (2 * k) = ca at *
      generalize hb : tx N (2 * k + 1) = cb at *
      have HA : Hid (tx N (2 * k) = ca) := ha
      have HB : Hid (tx N (2 * k + 1) = cb) := hb
      clear ha hb te to
      obtain ⟨b0, b1⟩ := bb
      obtain ⟨i0, hi, hz0, hz1, hz2⟩ := info_parts Try.info5
      have ON : Hid (∀ u ∈ ([.int .u8 ca, .int .u8 cb] : List Value), u.oneCell' = true) := by
        intro u hu; simp at hu; rcases hu with rfl | rfl <;> rfl
      have SP : Hid (∀ j, j < ([.int .u8 ca, .int .u8 cb] : List Value).length → (((wr.alloc (.cells #[.int .u8 ca, .int .u8 cb] 5)).drew).cell? ⟨w.heap.size + 1, 0 + 2 * k * 1 + j, none⟩).isSome = true ∧ ((wr.alloc (.cells #[.int .u8 ca, .int .u8 cb] 5)).drew).frozen? ⟨w.heap.size + 1, 0 + 2 * k * 1 + j, none⟩ = false) := by
        intro j hj
        have hj2 : j < 2 := hj
        have := ((A.alloc hz (.cells #[.int .u8 ca, .int .u8 cb] 5)).drew) (0 + 2 * k * 1 + j) (by omega)
        exact ⟨by rw [this.1]; rfl, this.2⟩
      have HI : Hid _ := hi
      go_wp2_with fail
      go_region_law (refine step_append_room rfl (.tmp 12) (.tmp 19) 43 rfl 5 i0 1 Try.underlying43 hi hz1 (w.heap.size + 1) 0 (2 * k) 64 (by simp [Act.eval, Act.put]) ⟨wr.heap.size, 0, none⟩ 2 2 [.int .u8 ca, .int .u8 cb] (by simp [Act.eval, Act.put]) rfl (news2 _ _ _) ON.out (by omega) SP.out ?_)
      all_goals
        go_wp2_with fail
        go_roundw
        case rel => exact ⟨k + 1, by omega, by go_num, by rw [show 2 * (k + 1) = 2 * k + 2 by omega], text_rel ca cb _ hB hz A hlt HA.out HB.out⟩
        case measure => simp [intOf]; omega
    · have k8 : k = 32 := by omega
      subst k8
      have CV := conv_text wr (w.heap.size + 1) (txL N) (by simp [txL]) (by intro j hj; rw [A.c j hj, if_pos (by omega)]; simp [txL, List.getD, hj])
      clear A hat hC
      have CV' : (convert 43 9 (.slice (some ⟨w.heap.size + 1, 0, none⟩) (2 * 32) 64)).run Try.prog wr = .ok (.string (txS N)) wr := CV
      clear CV
      generalize hT : txS N = T at CV'
      have HT : Hid (txS N = T) := hT
      clear hT
      go_wp2_with fail
      go_ret
      refine ⟨?_, hB⟩
      rw [HT.out]
      rfl
theorem text_any (N : Int) (hN : 0 ≤ N) (hN' : N < top256) (w : World) :
    Calls Try.prog 14 #[nv N] w fun e w' => e = .returned (.string (txS N)) ∧ Below w.heap.size w w' := by
  obtain ⟨C, _, hC, mk⟩ := made64
  exact text_core N (bytsL N) C (bytsL_at N) hC mk (fun W => bigBytes_any N hN hN' W) w
end Go.Proofs.Ytpigofooblmdhaa
/- What num's helpers for texts answer: lengthError, digitValue, push. -/
set_option linter.all false
namespace Go.Proofs.Ytpigofooblmdhaa
open Go.RowKit
/-- Which error a text's length is. -/
def lenE (s n : Int) : Int := if s < n then 11 else if n < s then 12 else 0
set_option maxHeartbeats 1000000 in
theorem lengthError_any (s : ByteArray) (n : Int) (hs : s.size ≤ maxLen) (w : World) :
    Calls Try.prog 48 #[.string s, .int .i64 n] w fun e w' => e = .returned (.int .i64 (lenE s.size n)) ∧ w' = w := by
  unfold maxLen at hs
  unfold lenE
  by_cases h : (s.size : Int) < n
  · rw [if_pos h]
    go_enter Try.func48, Try.ntmps48
    go_wp2
    go_ret
    exact ⟨rfl, rfl⟩
  · rw [if_neg h]
    by_cases h2 : n < (s.size : Int)
    · rw [if_pos h2]
      go_enter Try.func48, Try.ntmps48
      go_wp2
      go_ret
      exact ⟨rfl, rfl⟩
    · rw [if_neg h2]
      go_enter Try.func48, Try.ntmps48
      go_wp2
      go_ret
      exact ⟨rfl, rfl⟩
/-- What a digit stands for. -/
def dgv (c : Int) : Int := if 48 ≤ c ∧ c ≤ 57 then c - 48 else if 97 ≤ c ∧ c ≤ 102 then c - 87 else 0
/-- Whether a sign is a digit. -/
def dgo (c : Int) : Bool := decide (48 ≤ c ∧ c ≤ 57) || decide (97 ≤ c ∧ c ≤ 102)
set_option maxHeartbeats 1000000 in
theorem digitValue_any (c : Int) (h0 : 0 ≤ c) (h1 : c < 256) (w : World) :
    Calls Try.prog 49 #[.int .u8 c] w fun e w' => e = .returned (.tuple #[.int .u8 (dgv c), .bool (dgo c)]) ∧ w' = w := by
  by_cases a : 48 ≤ c ∧ c ≤ 57
  · have e1 : dgv c = c - 48 := by unfold dgv; rw [if_pos a]
    have e2 : dgo c = true := by unfold dgo; simp [a]
    rw [e1, e2]
    obtain ⟨a1, a2⟩ := a
    clear e1 e2
    go_enter Try.func49, Try.ntmps49
    go_wp2
    go_ret2
    exact ⟨rfl, rfl⟩
  · by_cases b : 97 ≤ c ∧ c ≤ 102
    · have e1 : dgv c = c - 87 := by unfold dgv; rw [if_neg a, if_pos b]
      have e2 : dgo c = true := by unfold dgo; simp [b]
      rw [e1, e2]
      obtain ⟨b1, b2⟩ := b
      have a1 : (48 : Int) ≤ c := by omega
      have a2 : ¬ c ≤ 57 := by omega
      clear e1 e2 a
      go_enter Try.func49, Try.ntmps49
      go_wp2
      go_ret2
      exact ⟨by simp; omega, rfl⟩
    · have e1 : dgv c = 0 := by unfold dgv; rw [if_neg a, if_neg b]
      have e2 : dgo c = false := by unfold dgo; rw [decide_eq_false a, decide_eq_false b]; rfl
      rw [e1, e2]
      clear e1 e2
      by_cases h48 : 48 ≤ c
      · have h57 : ¬ c ≤ 57 := by omega
        by_cases h97 : 97 ≤ c
        · have h102 : ¬ c ≤ 102 := by omega
          clear a b
          go_enter Try.func49, Try.ntmps49
          go_wp2
          go_ret2
          exact ⟨rfl, rfl⟩
        · clear a b
          go_enter Try.func49, Try.ntmps49
          go_wp2
          go_ret2
          exact ⟨rfl, rfl⟩
      · have h97 : ¬ 97 ≤ c := by omega
        clear a b
        go_enter Try.func49, Try.ntmps49
        go_wp2
        go_ret2
        exact ⟨rfl, rfl⟩
set_option maxHeartbeats 2000000 in
theorem push_any (b : Nat) (f : Nat → Value) (t : Nat) (ht : t < 4) (wd d x : Int) (hw0 : 0 ≤ wd) (hw1 : wd ≤ 8) (hd0 : 0 ≤ d) (hd1 : d < 256) (W : World) (hA : Arr W b 4 f) (hx : f (3 - t) = .int .u64 x) (x0 : 0 ≤ x) (x1 : x < 18446744073709551616) :
    Calls Try.prog 50 #[.pointer (some ⟨b, 0, none⟩), .int .i64 t, .int .u64 wd, .int .u8 d] W fun e w' => (∃ v, e = .returned v) ∧ w' = (W.setCell ⟨b, 3 - t, none⟩ (.int .u64 (bits .or .u64 (IntKind.u64.wrap (x * 2 ^ wd.toNat)) d))).drew := by
  have r := hA.c (3 - t) (by omega)
  rw [hx] at r
  have z := hA.z (3 - t) (by omega)
  obtain ⟨q, hq⟩ : ∃ q : Nat, (3 : Int) - (t : Int) = (q : Int) := ⟨3 - t, by omega⟩
  have e : 3 - t = q := by omega
  rw [e] at r z ⊢
  have q0 : (0 : Int) ≤ (q : Int) := by omega
  have q4 : (q : Int) < 4 := by omega
  have t0 : (0 : Int) ≤ (t : Int) := by omega
  have t4 : (t : Int) < 4 := by omega
  clear e hA hx
  go_enter Try.func50, Try.ntmps50
  go_wp2
  go_region
  go_wp2
  go_end0
  exact ⟨⟨_, rfl⟩, rfl⟩
end Go.Proofs.Ytpigofooblmdhaa
/- Numbers filled from the highest digit on, part by part, as plain numbers. -/
set_option linter.all false
set_option maxRecDepth 100000
namespace Go.Proofs.Ytpigofooblmdhaa
open Go.RowKit
/-- Part j when k digits of wd bits have come, p digits a part. -/
def pb (wd p : Nat) (f : Nat → Int) : Nat → Nat → Int
  | 0, _ => 0
  | k + 1, j => if j + k / p = 3 then pb wd p f k j * 2 ^ wd + f k else pb wd p f k j
/-- The whole number when k digits have come. -/
def pn (wd : Nat) (f : Nat → Int) : Nat → Int
  | 0 => 0
  | k + 1 => pn wd f k * 2 ^ wd + f k
theorem pn_nn (wd : Nat) (f : Nat → Int) (hf : ∀ i, 0 ≤ f i) : ∀ k, 0 ≤ pn wd f k := by
  intro k
  induction k with
  | zero => exact Int.le_refl _
  | succ k ih => exact Int.add_nonneg (Int.mul_nonneg ih (Int.le_of_lt (Int.pow_pos (by omega)))) (hf k)
theorem pn_lt (wd : Nat) (f : Nat → Int) (hf : ∀ i, 0 ≤ f i ∧ f i < 2 ^ wd) : ∀ k, pn wd f k < 2 ^ (wd * k) := by
  intro k
  induction k with
  | zero => simp [pn]
  | succ k ih =>
    have h := hf k
    show pn wd f k * 2 ^ wd + f k < 2 ^ (wd * (k + 1))
    have e : (2 : Int) ^ (wd * (k + 1)) = 2 ^ (wd * k) * 2 ^ wd := by rw [Nat.mul_add, Nat.mul_one, Int.pow_add]
    have m : (pn wd f k + 1) * 2 ^ wd ≤ 2 ^ (wd * k) * 2 ^ wd := Int.mul_le_mul_of_nonneg_right (by omega) (Int.le_of_lt (Int.pow_pos (by omega)))
    rw [e]
    rw [Int.add_mul, Int.one_mul] at m
    omega
/-- The digits from a given one on. -/
def sh (f : Nat → Int) (a : Nat) : Nat → Int := fun i => f (a + i)
theorem pn_add (wd : Nat) (f : Nat → Int) (a : Nat) : ∀ b, pn wd f (a + b) = pn wd f a * 2 ^ (wd * b) + pn wd (sh f a) b := by
  intro b
  induction b with
  | zero => simp [pn]
  | succ b ih =>
    show pn wd f (a + b) * 2 ^ wd + f (a + b) = pn wd f a * 2 ^ (wd * (b + 1)) + (pn wd (sh f a) b * 2 ^ wd + sh f a b)
    rw [ih, Nat.mul_add, Nat.mul_one, Int.pow_add]
    show _ + f (a + b) = _ + (_ + f (a + b))
    grind
/-- A part while it is being filled holds just its own digits. -/
theorem pb_is (wd p : Nat) (f : Nat → Int) (hp : 0 < p) : ∀ k j, j < 4 → k ≤ 4 * p →
    pb wd p f k j = if k ≤ (3 - j) * p then 0 else if k ≤ (4 - j) * p then pn wd (sh f ((3 - j) * p)) (k - (3 - j) * p) else pn wd (sh f ((3 - j) * p)) p := by
  intro k
  induction k with
  | zero => intro j hj hk; simp [pb]
  | succ k ih =>
    intro j hj hk
    have hi := ih j hj (by omega)
    show (if j + k / p = 3 then pb wd p f k j * 2 ^ wd + f k else pb wd p f k j) = _
    have e4 : (4 - j) * p = (3 - j) * p + p := by
      rw [show 4 - j = 3 - j + 1 by omega, Nat.add_mul, Nat.one_mul]
    by_cases c : j + k / p = 3
    · have d : k / p = 3 - j := by omega
      have lo : (3 - j) * p ≤ k := by rw [← d]; exact Nat.div_mul_le_self k p
      have hi2 : k < (3 - j) * p + p := by
        have := Nat.lt_div_mul_add (a := k) hp
        rw [d] at this
        exact this
      rw [if_pos c, hi, if_neg (show ¬ k + 1 ≤ (3 - j) * p by omega), if_pos (show k + 1 ≤ (4 - j) * p by omega)]
      by_cases c2 : k ≤ (3 - j) * p
      · have ek : k = (3 - j) * p := by omega
        rw [if_pos c2]
        have : k + 1 - (3 - j) * p = 0 + 1 := by omega
        rw [this]
        show 0 * 2 ^ wd + f k = pn wd (sh f ((3 - j) * p)) 0 * 2 ^ wd + sh f ((3 - j) * p) 0
        simp [pn, sh, ← ek]
      · rw [if_neg c2, if_pos (show k ≤ (4 - j) * p by omega)]
        have : k + 1 - (3 - j) * p = (k - (3 - j) * p) + 1 := by omega
        rw [this]
        show _ = pn wd (sh f ((3 - j) * p)) (k - (3 - j) * p) * 2 ^ wd + sh f ((3 - j) * p) (k - (3 - j) * p)
        have : sh f ((3 - j) * p) (k - (3 - j) * p) = f k := by unfold sh; congr 1; omega
        rw [this]
    · rw [if_neg c, hi]
      by_cases c2 : k + 1 ≤ (3 - j) * p
      · rw [if_pos c2, if_pos (by omega)]
      · rw [if_neg c2]
        have nlt : ¬ k < (3 - j) * p + p := by
          intro hlt
          have a1 : k / p = 3 - j := by
            refine Nat.div_eq_of_lt_le (by omega) ?_
            rw [Nat.add_mul, Nat.one_mul]; exact hlt
          omega
        rw [if_neg (show ¬ k ≤ (3 - j) * p by omega), if_neg (show ¬ k + 1 ≤ (4 - j) * p by omega)]
        by_cases c3 : k ≤ (4 - j) * p
        · have : k - (3 - j) * p = p := by omega
          rw [if_pos c3, this]
        · rw [if_neg c3]
end Go.Proofs.Ytpigofooblmdhaa
/- What num.FromBig and num.Parse answer. -/
set_option linter.all false
set_option maxRecDepth 100000
namespace Go.Proofs.Ytpigofooblmdhaa
open Go.RowKit
/-- The i-th byte of a text, 0 beyond its end. -/
def bt (s : ByteArray) (i : Nat) : Int := (s.data[i]?.getD 0).toNat
theorem bt_bd (s : ByteArray) (i : Nat) : 0 ≤ bt s i ∧ bt s i < 256 := by unfold bt; have := (s.data[i]?.getD 0).toNat_lt; omega
theorem or_low (x d : Int) (wd : Nat) (h : wd = 4 ∨ wd = 8) (x0 : 0 ≤ x) (x1 : x * 2 ^ wd < 18446744073709551616) (d0 : 0 ≤ d) (d1 : d < 2 ^ wd) :
    bits .or .u64 (IntKind.u64.wrap (x * 2 ^ wd)) d = x * 2 ^ wd + d := by
  have e : bits .or .u64 d (IntKind.u64.wrap (x * 2 ^ (64 - (64 - wd)))) = d + x * 2 ^ wd := by
    have j := or_join (d * 2 ^ (64 - wd)) x (64 - wd) (by omega) (Int.mul_nonneg d0 (Int.le_of_lt (Int.pow_pos (by omega)))) (by
      rcases h with rfl | rfl
      · have : d < 16 := by simpa using d1
        simp; omega
      · have : d < 256 := by simpa using d1
        simp; omega) x0
    rw [Int.mul_ediv_cancel _ (Int.ne_of_gt (Int.pow_pos (by omega)))] at j
    rw [j]
    have hx : x % 2 ^ (64 - wd) = x := by
      refine Int.emod_eq_of_lt x0 ?_
      rcases h with rfl | rfl
      · simp at x1 ⊢; omega
      · simp at x1 ⊢; omega
    rw [hx, show 64 - (64 - wd) = wd by omega]
  rw [show 64 - (64 - wd) = wd by omega] at e
  have c : ∀ a b : Int, bits .or .u64 a b = bits .or .u64 b a := fun a b => by
    simp only [bits]; rw [BitVec.or_comm]
  rw [c, e, Int.add_comm]
theorem pb_bd (wd p : Nat) (f : Nat → Int) (hp : 0 < p) (hw : wd * p = 64) (hf : ∀ i, 0 ≤ f i ∧ f i < 2 ^ wd) (k j : Nat) (hj : j < 4) (hk : k ≤ 4 * p) : 0 ≤ pb wd p f k j ∧ pb wd p f k j < 18446744073709551616 := by
  have nn : ∀ g : Nat → Int, (∀ i, 0 ≤ g i ∧ g i < 2 ^ wd) → ∀ m, m ≤ p → 0 ≤ pn wd g m ∧ pn wd g m < 18446744073709551616 := fun g hg m hm => by
    refine ⟨pn_nn wd g (fun i => (hg i).1) m, ?_⟩
    have a := pn_lt wd g hg m
    have b : (2 : Nat) ^ (wd * m) ≤ 2 ^ 64 := by rw [← hw]; exact Nat.pow_le_pow_right (by omega) (Nat.mul_le_mul_left wd hm)
    have c : ((2 ^ (wd * m) : Nat) : Int) ≤ ((2 ^ 64 : Nat) : Int) := Int.ofNat_le.2 b
    have d : ((2 ^ (wd * m) : Nat) : Int) = 2 ^ (wd * m) := by push_cast; rfl
    have e : ((2 ^ 64 : Nat) : Int) = 18446744073709551616 := rfl
    omega
  have sf : ∀ a i, 0 ≤ sh f a i ∧ sh f a i < 2 ^ wd := fun a i => hf (a + i)
  rw [pb_is wd p f hp k j hj hk]
  have e4 : (4 - j) * p = (3 - j) * p + p := by rw [show 4 - j = 3 - j + 1 by omega, Nat.add_mul, Nat.one_mul]
  split
  · omega
  · split
    · exact nn _ (sf _) _ (by omega)
    · exact nn _ (sf _) _ (Nat.le_refl _)
theorem pb_room (wd p : Nat) (f : Nat → Int) (hp : 0 < p) (hw : wd * p = 64) (hf : ∀ i, 0 ≤ f i ∧ f i < 2 ^ wd) (k j : Nat) (hj : j < 4) (hk : k < 4 * p) (hjk : j + k / p = 3) : pb wd p f k j * 2 ^ wd < 18446744073709551616 := by
  have h := (pb_bd wd p f hp hw hf (k + 1) j hj (by omega)).2
  have u : pb wd p f (k + 1) j = pb wd p f k j * 2 ^ wd + f k := by show (if _ then _ else _) = _; rw [if_pos hjk]
  have := (hf k).1
  rw [u] at h
  omega
theorem idxS (s : ByteArray) (k : Nat) (hk : k < s.size) (W : World) : (Instr.index 9 (.string s) (.int .i64 (k : Int))).run Try.prog W = .ok (.int .u8 (bt s k)) W := by
  have h0 : (0 : Int) ≤ (k : Int) ∧ (k : Int) < (s.size : Int) := by omega
  have e : s.data[k]? = some (s.data[k]'hk) := Array.getElem?_eq_getElem hk
  unfold bt
  rw [e]
  simp [Instr.index, asIntOf, Sem.run_bind, Sem.run_pure, Result.andThen_ok, run_underlying Try.underlying9, h0, go_sem]
  rw [getElem?_pos s k hk]
  rfl
set_option maxRecDepth 100000 in
set_option maxHeartbeats 4000000 in
theorem fromBig_ok (s : ByteArray) (hs : s.size = 32) (w : World) :
    Calls Try.prog 10 #[.string s] w fun e w' => e = .returned (.tuple #[.agg #[.int .u64 (pb 8 8 (bt s) 32 0), .int .u64 (pb 8 8 (bt s) 32 1), .int .u64 (pb 8 8 (bt s) 32 2), .int .u64 (pb 8 8 (bt s) 32 3)], .int .i64 0]) ∧ Below w.heap.size w w' := by
  have LE := fun W => lengthError_any s 32 (by rw [hs]; decide) W
  have le0 : lenE (s.size : Int) 32 = 0 := by rw [hs]; decide
  rw [le0] at LE
  go_enter Try.func10, Try.ntmps10
  go_wp2_with (go_at_call 48; refine (LE _).mono ?_; rintro e w1 ⟨rfl, rfl⟩)
  go_loopw [13] (fun i wr => ∃ k : Nat, k ≤ 32 ∧ i = .int .i64 k ∧ Below w.heap.size w wr ∧ Arr wr w.heap.size 4 (fun _ => .int .u64 0) ∧ Arr wr (w.heap.size + 1) 4 (fun j => .int .u64 (pb 8 8 (bt s) k j)))
    (fun i _ => 32 - (intOf i).toNat)
  case atStart => exact ⟨0, by omega, rfl, by go_grown, Arr.mk4 (by simp [go_sem]) (by simp [go_sem]) (by simp [go_sem]) (by simp [go_sem]) (by simp [go_sem]) (by simp [go_sem]) (by simp [go_sem]) (by simp [go_sem]), Arr.mk4 (by simp [go_sem, pb]) (by simp [go_sem, pb]) (by simp [go_sem, pb]) (by simp [go_sem, pb]) (by simp [go_sem]) (by simp [go_sem]) (by simp [go_sem]) (by simp [go_sem])⟩
  case round =>
    clear LE le0
    obtain ⟨k, hk, rfl, hB, hZ, hA⟩ := hrel
    by_cases hlt : k < 32
    · have k0 : (0 : Int) ≤ (k : Int) := by omega
      have k32 : (k : Int) < 32 := by omega
      obtain ⟨q, hq⟩ : ∃ q : Nat, (k : Int) / 8 = (q : Int) := ⟨k / 8, by omega⟩
      have hf : ∀ i, 0 ≤ bt s i ∧ bt s i < 2 ^ 8 := fun i => by have := bt_bd s i; simpa using this
      have q4 : q < 4 := by omega
      have jq : 3 - q + k / 8 = 3 := by omega
      have bb := bt_bd s k
      have I := fun W => idxS s k (by omega) W
      have rm := pb_room 8 8 (bt s) (by omega) (by omega) hf k (3 - q) (by omega) (by omega) jq
      have xb := pb_bd 8 8 (bt s) (by omega) (by omega) hf k (3 - q) (by omega) (by omega)
      have PU := push_any (w.heap.size + 1) _ q q4 8 (bt s k) (pb 8 8 (bt s) k (3 - q)) (by omega) (by omega) bb.1 bb.2 wr hA rfl xb.1 xb.2
      have ol := or_low (pb 8 8 (bt s) k (3 - q)) (bt s k) 8 (.inr rfl) xb.1 rm bb.1 (hf k).2
      rw [show (8 : Int).toNat = 8 from rfl, ol, show (2 : Int) ^ 8 = 256 by decide] at PU
      have st : Arr ((wr.setCell ⟨w.heap.size + 1, 3 - q, none⟩ (.int .u64 (pb 8 8 (bt s) k (3 - q) * 256 + bt s k))).drew) (w.heap.size + 1) 4 (fun j => .int .u64 (pb 8 8 (bt s) (k + 1) j)) := by
        refine ((hA.set (3 - q) (by omega) _).congr ?_).drew
        intro j hj
        show _ = Value.int .u64 (if j + k / 8 = 3 then pb 8 8 (bt s) k j * 2 ^ 8 + bt s k else pb 8 8 (bt s) k j)
        by_cases h : j = 3 - q
        · subst h; rw [if_pos rfl, if_pos jq, show (2 : Int) ^ 8 = 256 by decide]
        · rw [if_neg h, if_neg (by omega)]
      have sz : Arr ((wr.setCell ⟨w.heap.size + 1, 3 - q, none⟩ (.int .u64 (pb 8 8 (bt s) k (3 - q) * 256 + bt s k))).drew) w.heap.size 4 (fun _ => .int .u64 0) := (hZ.other (by omega) _).drew
      have sB : Below w.heap.size w ((wr.setCell ⟨w.heap.size + 1, 3 - q, none⟩ (.int .u64 (pb 8 8 (bt s) k (3 - q) * 256 + bt s k))).drew) := (hB.setCell (by show _ ≤ w.heap.size + 1; omega) _).drew
      clear ol rm xb hf jq hA hZ hB
      go_wp2_with (go_at_call 50; refine PU.mono ?_; rintro e w1 ⟨⟨v, rfl⟩, rfl⟩)
      exact ⟨⟨k + 1, by omega, by go_num, sB, sz, st⟩, by simp [intOf]; omega⟩
    · have e32 : k = 32 := by omega
      subst e32
      have r1 := hA.c
      have r0 := hZ.c
      have z0 := hZ.z
      clear hA hZ
      go_wp2_with fail
      refine bodyPost_ret (v := .tuple #[.agg #[.int .u64 (pb 8 8 (bt s) 32 0), .int .u64 (pb 8 8 (bt s) 32 1), .int .u64 (pb 8 8 (bt s) 32 2), .int .u64 (pb 8 8 (bt s) 32 3)], .int .i64 0]) (by simp [results, Try.results10, go_sem, r0]) rfl ⟨rfl, ?_⟩
      go_grown
end Go.Proofs.Ytpigofooblmdhaa
/- num.FromBig and num.Parse, as whole numbers. -/
set_option linter.all false
set_option maxRecDepth 100000
namespace Go.Proofs.Ytpigofooblmdhaa
open Go.RowKit
theorem pb_lim (wd p : Nat) (f : Nat → Int) (hp : 0 < p) (hw : wd * p = 64) (hf : ∀ i, 0 ≤ f i ∧ f i < 2 ^ wd) (j : Nat) (hj : j < 4) : pb wd p f (4 * p) j = lim (pn wd f (4 * p)) j := by
  have e4 : (4 - j) * p = (3 - j) * p + p := by rw [show 4 - j = 3 - j + 1 by omega, Nat.add_mul, Nat.one_mul]
  have ej : 4 * p = (4 - j) * p + j * p := by rw [← Nat.add_mul]; congr 1; omega
  have a1 : pb wd p f (4 * p) j = pn wd (sh f ((3 - j) * p)) p := by
    rw [pb_is wd p f hp (4 * p) j hj (Nat.le_refl _), if_neg (by omega)]
    split
    · congr 1; omega
    · rfl
  have p64 : (2 : Int) ^ (wd * p) = 18446744073709551616 := by rw [hw]; rfl
  have pj : (2 : Int) ^ (wd * (j * p)) = 18446744073709551616 ^ j := by
    rw [show wd * (j * p) = wd * p * j by rw [Nat.mul_comm j p, Nat.mul_assoc], Int.pow_mul, p64]
  have b0 := pn_nn wd (sh f ((4 - j) * p)) (fun i => (hf _).1) (j * p)
  have b1 := pn_lt wd (sh f ((4 - j) * p)) (fun i => hf _) (j * p)
  have c0 := pn_nn wd (sh f ((3 - j) * p)) (fun i => (hf _).1) p
  have c1 := pn_lt wd (sh f ((3 - j) * p)) (fun i => hf _) p
  rw [p64] at c1
  rw [pj] at b1
  have d1 := pn_add wd f ((4 - j) * p) (j * p)
  have d2 := pn_add wd f ((3 - j) * p) p
  rw [← ej, pj, e4] at d1
  rw [p64] at d2
  have pp : (0 : Int) < 18446744073709551616 ^ j := Int.pow_pos (by omega)
  rw [a1]
  unfold lim
  rw [d1, d2, Int.add_comm, Int.add_mul_ediv_right _ _ (Int.ne_of_gt pp), Int.ediv_eq_zero_of_lt (by rw [e4] at b0; exact b0) (by rw [e4] at b1; exact b1), Int.zero_add]
  omega
theorem nv_pb (wd p : Nat) (f : Nat → Int) (hp : 0 < p) (hw : wd * p = 64) (hf : ∀ i, 0 ≤ f i ∧ f i < 2 ^ wd) :
    (.agg #[.int .u64 (pb wd p f (4 * p) 0), .int .u64 (pb wd p f (4 * p) 1), .int .u64 (pb wd p f (4 * p) 2), .int .u64 (pb wd p f (4 * p) 3)] : Value) = nv (pn wd f (4 * p)) := by
  simp only [nv, pb_lim wd p f hp hw hf 0 (by omega), pb_lim wd p f hp hw hf 1 (by omega), pb_lim wd p f hp hw hf 2 (by omega), pb_lim wd p f hp hw hf 3 (by omega)]
theorem bt_8 (s : ByteArray) : ∀ i, 0 ≤ bt s i ∧ bt s i < 2 ^ 8 := fun i => by have := bt_bd s i; simpa using this
theorem fromBig_yes (s : ByteArray) (hs : s.size = 32) (w : World) :
    Calls Try.prog 10 #[.string s] w fun e w' => e = .returned (.tuple #[nv (pn 8 (bt s) 32), .int .i64 0]) ∧ Below w.heap.size w w' := by
  have := fromBig_ok s hs w
  rw [show (32 : Nat) = 4 * 8 from rfl, nv_pb 8 8 (bt s) (by omega) (by omega) (bt_8 s)] at this
  exact this
set_option maxHeartbeats 1000000 in
theorem fromBig_no (s : ByteArray) (hs : s.size ≤ maxLen) (hn : s.size ≠ 32) (w : World) :
    Calls Try.prog 10 #[.string s] w fun e w' => e = .returned (.tuple #[.agg #[.int .u64 0, .int .u64 0, .int .u64 0, .int .u64 0], .int .i64 (lenE s.size 32)]) ∧ Below w.heap.size w w' := by
  have LE := fun W => lengthError_any s 32 hs W
  have ne : ¬ lenE (s.size : Int) 32 = 0 := by unfold lenE; split <;> (try split) <;> omega
  generalize lenE (s.size : Int) 32 = E at *
  go_enter Try.func10, Try.ntmps10
  go_wp2_with (go_at_call 48; refine (LE _).mono ?_; rintro e w1 ⟨rfl, rfl⟩)
  refine bodyPost_ret (v := .tuple #[.agg #[.int .u64 0, .int .u64 0, .int .u64 0, .int .u64 0], .int .i64 E]) (by simp [results, Try.results10, go_sem]) rfl ⟨rfl, ?_⟩
  go_grown
/-- Each sign of a text's first k is a digit. -/
def alld (s : ByteArray) (k : Nat) : Prop := ∀ i, i < k → dgo (bt s i) = true
/-- The digits of a text. -/
def dg (s : ByteArray) (i : Nat) : Int := dgv (bt s i)
theorem dg_4 (s : ByteArray) : ∀ i, 0 ≤ dg s i ∧ dg s i < 2 ^ 4 := fun i => by
  unfold dg dgv
  split
  · simp; omega
  · split
    · simp; omega
    · simp
set_option maxHeartbeats 1000000 in
theorem parse_no (s : ByteArray) (hs : s.size ≤ maxLen) (hn : s.size ≠ 64) (w : World) :
    Calls Try.prog 8 #[.string s] w fun e w' => e = .returned (.tuple #[.agg #[.int .u64 0, .int .u64 0, .int .u64 0, .int .u64 0], .int .i64 (lenE s.size 64)]) ∧ Below w.heap.size w w' := by
  have LE := fun W => lengthError_any s 64 hs W
  have ne : ¬ lenE (s.size : Int) 64 = 0 := by unfold lenE; split <;> (try split) <;> omega
  generalize lenE (s.size : Int) 64 = E at *
  go_enter Try.func8, Try.ntmps8
  go_wp2_with (go_at_call 48; refine (LE _).mono ?_; rintro e w1 ⟨rfl, rfl⟩)
  refine bodyPost_ret (v := .tuple #[.agg #[.int .u64 0, .int .u64 0, .int .u64 0, .int .u64 0], .int .i64 E]) (by simp [results, Try.results8, go_sem]) rfl ⟨rfl, ?_⟩
  go_grown
set_option maxRecDepth 100000 in
set_option maxHeartbeats 4000000 in
theorem parse_64 (s : ByteArray) (hs : s.size = 64) (w : World) :
    Calls Try.prog 8 #[.string s] w fun e w' => ((alld s 64 ∧ e = .returned (.tuple #[.agg #[.int .u64 (pb 4 16 (dg s) 64 0), .int .u64 (pb 4 16 (dg s) 64 1), .int .u64 (pb 4 16 (dg s) 64 2), .int .u64 (pb 4 16 (dg s) 64 3)], .int .i64 0])) ∨
      (¬ alld s 64 ∧ e = .returned (.tuple #[.agg #[.int .u64 0, .int .u64 0, .int .u64 0, .int .u64 0], .int .i64 10]))) ∧ Below w.heap.size w w' := by
  have LE := fun W => lengthError_any s 64 (by rw [hs]; decide) W
  have le0 : lenE (s.size : Int) 64 = 0 := by rw [hs]; decide
  rw [le0] at LE
  go_enter Try.func8, Try.ntmps8
  go_wp2_with (go_at_call 48; refine (LE _).mono ?_; rintro e w1 ⟨rfl, rfl⟩)
  go_loopw [15] (fun i wr => ∃ k : Nat, k ≤ 64 ∧ i = .int .i64 k ∧ alld s k ∧ Below w.heap.size w wr ∧ Arr wr w.heap.size 4 (fun _ => .int .u64 0) ∧ Arr wr (w.heap.size + 1) 4 (fun j => .int .u64 (pb 4 16 (dg s) k j)))
    (fun i _ => 64 - (intOf i).toNat)
  case atStart => exact ⟨0, by omega, rfl, fun i h => by omega, by go_grown, Arr.mk4 (by simp [go_sem]) (by simp [go_sem]) (by simp [go_sem]) (by simp [go_sem]) (by simp [go_sem]) (by simp [go_sem]) (by simp [go_sem]) (by simp [go_sem]), Arr.mk4 (by simp [go_sem, pb]) (by simp [go_sem, pb]) (by simp [go_sem, pb]) (by simp [go_sem, pb]) (by simp [go_sem]) (by simp [go_sem]) (by simp [go_sem]) (by simp [go_sem])⟩
  case round =>
    clear LE le0
    obtain ⟨k, hk, rfl, hall, hB, hZ, hA⟩ := hrel
    by_cases hlt : k < 64
    · have k0 : (0 : Int) ≤ (k : Int) := by omega
      have k64 : (k : Int) < 64 := by omega
      obtain ⟨q, hq⟩ : ∃ q : Nat, (k : Int) / 16 = (q : Int) := ⟨k / 16, by omega⟩
      have q4 : q < 4 := by omega
      have jq : 3 - q + k / 16 = 3 := by omega
      have bb := bt_bd s k
      have I := fun W => idxS s k (by omega) W
      have DV := fun W => digitValue_any (bt s k) bb.1 bb.2 W
      by_cases hd : dgo (bt s k) = true
      · have hf := dg_4 s
        have db : 0 ≤ dg s k ∧ dg s k < 256 := by have := hf k; simp at this; omega
        have rm := pb_room 4 16 (dg s) (by omega) (by omega) hf k (3 - q) (by omega) (by omega) jq
        have xb := pb_bd 4 16 (dg s) (by omega) (by omega) hf k (3 - q) (by omega) (by omega)
        have PU := push_any (w.heap.size + 1) _ q q4 4 (dg s k) (pb 4 16 (dg s) k (3 - q)) (by omega) (by omega) db.1 db.2 wr hA rfl xb.1 xb.2
        have ol := or_low (pb 4 16 (dg s) k (3 - q)) (dg s k) 4 (.inl rfl) xb.1 rm db.1 (hf k).2
        rw [show (4 : Int).toNat = 4 from rfl, ol, show (2 : Int) ^ 4 = 16 by decide] at PU
        have st : Arr ((wr.setCell ⟨w.heap.size + 1, 3 - q, none⟩ (.int .u64 (pb 4 16 (dg s) k (3 - q) * 16 + dg s k))).drew) (w.heap.size + 1) 4 (fun j => .int .u64 (pb 4 16 (dg s) (k + 1) j)) := by
          refine ((hA.set (3 - q) (by omega) _).congr ?_).drew
          intro j hj
          show _ = Value.int .u64 (if j + k / 16 = 3 then pb 4 16 (dg s) k j * 2 ^ 4 + dg s k else pb 4 16 (dg s) k j)
          by_cases h : j = 3 - q
          · subst h; rw [if_pos rfl, if_pos jq, show (2 : Int) ^ 4 = 16 by decide]
          · rw [if_neg h, if_neg (by omega)]
        have sz : Arr ((wr.setCell ⟨w.heap.size + 1, 3 - q, none⟩ (.int .u64 (pb 4 16 (dg s) k (3 - q) * 16 + dg s k))).drew) w.heap.size 4 (fun _ => .int .u64 0) := (hZ.other (by omega) _).drew
        have sB : Below w.heap.size w ((wr.setCell ⟨w.heap.size + 1, 3 - q, none⟩ (.int .u64 (pb 4 16 (dg s) k (3 - q) * 16 + dg s k))).drew) := (hB.setCell (by show _ ≤ w.heap.size + 1; omega) _).drew
        have hall' : alld s (k + 1) := fun i hi => by
          by_cases e : i = k
          · subst e; exact hd
          · exact hall i (by omega)
        rw [hd] at DV
        have DV' : ∀ W, Calls Try.prog 49 #[.int .u8 (bt s k)] W fun e w' => e = .returned (.tuple #[.int .u8 (dg s k), .bool true]) ∧ w' = W := DV
        have HA : Hid (alld s (k + 1)) := hall'
        clear ol rm xb hf jq hA hZ hB DV hall hall' hd
        go_wp2_with (first | (go_at_call 49; refine (DV' _).mono ?_; rintro e w1 ⟨rfl, rfl⟩) | (go_at_call 50; refine PU.mono ?_; rintro e w1 ⟨⟨v, rfl⟩, rfl⟩))
        exact ⟨⟨k + 1, by omega, by go_num, HA.out, sB, sz, st⟩, by simp [intOf]; omega⟩
      · have hd' : dgo (bt s k) = false := by simpa using hd
        rw [hd'] at DV
        have HN : Hid (¬ alld s 64) := fun h => hd (h k hlt)
        have r0 := hZ.c
        have z0 := hZ.z
        clear hA hZ hall hd hd' jq
        go_wp2_with (first | (go_at_call 49; refine (DV _).mono ?_; rintro e w1 ⟨rfl, rfl⟩))
        refine bodyPost_ret (v := .tuple #[.agg #[.int .u64 0, .int .u64 0, .int .u64 0, .int .u64 0], .int .i64 10]) (by simp [results, Try.results8, go_sem, r0]) rfl ⟨.inr ⟨HN.out, rfl⟩, ?_⟩
        go_grown
    · have e64 : k = 64 := by omega
      subst e64
      have r1 := hA.c
      have r0 := hZ.c
      have z0 := hZ.z
      have HA : Hid (alld s 64) := hall
      clear hA hZ hall
      go_wp2_with fail
      refine bodyPost_ret (v := .tuple #[.agg #[.int .u64 (pb 4 16 (dg s) 64 0), .int .u64 (pb 4 16 (dg s) 64 1), .int .u64 (pb 4 16 (dg s) 64 2), .int .u64 (pb 4 16 (dg s) 64 3)], .int .i64 0]) (by simp [results, Try.results8, go_sem, r0]) rfl ⟨.inl ⟨HA.out, rfl⟩, ?_⟩
      go_grown
end Go.Proofs.Ytpigofooblmdhaa
/- What num.Big answers; texts made of bytes. -/
set_option linter.all false
set_option maxRecDepth 100000
namespace Go.Proofs.Ytpigofooblmdhaa
open Go.RowKit
/-- The text of these bytes. -/
def mkS (ns : List Int) : ByteArray := ns.foldl (fun r n => r.push (UInt8.ofNat n.toNat)) ByteArray.empty
theorem mkS_data (ns : List Int) : ∀ r : ByteArray, (ns.foldl (fun r n => r.push (UInt8.ofNat n.toNat)) r).data.toList = r.data.toList ++ ns.map (fun n => UInt8.ofNat n.toNat) := by
  induction ns with
  | nil => intro r; simp
  | cons n ns ih =>
    intro r
    rw [List.foldl_cons, ih]
    show (r.data.push _).toList ++ _ = _
    simp
theorem mkS_list (ns : List Int) : (mkS ns).data.toList = ns.map (fun n => UInt8.ofNat n.toNat) := by
  unfold mkS; rw [mkS_data]; rfl
theorem mkS_size (ns : List Int) : (mkS ns).size = ns.length := by
  have h := congrArg List.length (mkS_list ns)
  rw [Array.length_toList, List.length_map] at h
  exact h
theorem mkS_bt (ns : List Int) (i : Nat) (n : Int) (hi : ns[i]? = some n) (h0 : 0 ≤ n) (h1 : n < 256) : bt (mkS ns) i = n := by
  unfold bt
  have e : (mkS ns).data[i]? = (ns.map (fun n => UInt8.ofNat n.toNat))[i]? := by rw [← mkS_list, Array.getElem?_toList]
  rw [e, List.getElem?_map, hi]
  show ((UInt8.ofNat n.toNat).toNat : Int) = n
  rw [UInt8.toNat_ofNat']
  omega
theorem conv32 (W : World) (g : Nat) (ns : List Int) (h32 : ns.length = 32) (hc : ∀ j, j < 32 → W.cell? ⟨g, j, none⟩ = some (.int .u8 (ns.getD j 0))) :
    (convert 43 9 (.slice (some ⟨g, 0, none⟩) 32 32)).run Try.prog W = .ok (.string (mkS ns)) W := by
  rw [run_convert_bytes_string W 43 9 5 _ 32 32 Try.underlying43 Try.underlying5 Try.underlying9]
  refine run_bytesToString W ⟨g, 0, none⟩ 32 32 ns ?_
  have := run_loadCells_list (P := Try.prog) W ⟨g, 0, none⟩ (ns.map (Value.int .u8)) (by
    intro j v hv
    rw [Addr.add_mid, Nat.zero_add]
    rw [List.getElem?_map] at hv
    obtain ⟨n, hn, rfl⟩ := Option.map_eq_some_iff.1 hv
    have hj : j < 32 := by rw [← h32]; exact (List.getElem?_eq_some_iff.1 hn).1
    rw [hc j hj, List.getD, hn]; rfl)
  rw [List.length_map, h32] at this
  exact this
theorem store32 (L : List Value) (hlen : L.length = 32) (hone : ∀ v ∈ L, v.oneCell' = true) (W : World) :
    (storeCells ⟨W.heap.size, 0, none⟩ L).run Try.prog (W.alloc (.cells #[.int .u8 0, .int .u8 0, .int .u8 0, .int .u8 0, .int .u8 0, .int .u8 0, .int .u8 0, .int .u8 0, .int .u8 0, .int .u8 0, .int .u8 0, .int .u8 0, .int .u8 0, .int .u8 0, .int .u8 0, .int .u8 0, .int .u8 0, .int .u8 0, .int .u8 0, .int .u8 0, .int .u8 0, .int .u8 0, .int .u8 0, .int .u8 0, .int .u8 0, .int .u8 0, .int .u8 0, .int .u8 0, .int .u8 0, .int .u8 0, .int .u8 0, .int .u8 0] 57)) = .ok () (W.alloc (.cells L.toArray 57)) := by
  have := run_storeCells_new (P := Try.prog) W 57 #[.int .u8 0, .int .u8 0, .int .u8 0, .int .u8 0, .int .u8 0, .int .u8 0, .int .u8 0, .int .u8 0, .int .u8 0, .int .u8 0, .int .u8 0, .int .u8 0, .int .u8 0, .int .u8 0, .int .u8 0, .int .u8 0, .int .u8 0, .int .u8 0, .int .u8 0, .int .u8 0, .int .u8 0, .int .u8 0, .int .u8 0, .int .u8 0, .int .u8 0, .int .u8 0, .int .u8 0, .int .u8 0, .int .u8 0, .int .u8 0, .int .u8 0, .int .u8 0] L.toArray (by rw [List.size_toArray, hlen]; exact Try.info57) (by show 32 = L.toArray.size; rw [List.size_toArray, hlen]) (all_oneCell_toArray hone)
  rw [List.toList_toArray] at this
  exact this
set_option maxHeartbeats 1000000 in
theorem big_core (N : Int) (L : List Value) (S : ByteArray) (hlen : L.length = 32) (ST : ∀ W : World, (storeCells ⟨W.heap.size, 0, none⟩ L).run Try.prog (W.alloc (.cells #[.int .u8 0, .int .u8 0, .int .u8 0, .int .u8 0, .int .u8 0, .int .u8 0, .int .u8 0, .int .u8 0, .int .u8 0, .int .u8 0, .int .u8 0, .int .u8 0, .int .u8 0, .int .u8 0, .int .u8 0, .int .u8 0, .int .u8 0, .int .u8 0, .int .u8 0, .int .u8 0, .int .u8 0, .int .u8 0, .int .u8 0, .int .u8 0, .int .u8 0, .int .u8 0, .int .u8 0, .int .u8 0, .int .u8 0, .int .u8 0, .int .u8 0, .int .u8 0] 57)) = .ok () (W.alloc (.cells L.toArray 57)))
    (CV : ∀ W : World, (convert 43 9 (.slice (some ⟨W.heap.size, 0, none⟩) 32 32)).run Try.prog (W.alloc (.cells L.toArray 57)) = .ok (.string S) (W.alloc (.cells L.toArray 57)))
    (BB : ∀ W, Calls Try.prog 55 #[nv N] W fun e w' => e = .returned (.agg L.toArray) ∧ Below W.heap.size W w') (w : World) :
    Calls Try.prog 16 #[nv N] w fun e w' => e = .returned (.string S) ∧ Below w.heap.size w w' := by
  go_enter Try.func16, Try.ntmps16
  go_wp2_with fail
  refine (BB _).mono ?_
  rintro e w1 ⟨rfl, hb1⟩
  have hB1 : Below w.heap.size w w1 := Below.trans (by go_grown) (hb1.mono (by go_size))
  clear hb1 BB
  go_wp2_with fail
  go_ret
  exact ⟨rfl, hB1.alloc hB1.size _⟩
/-- A number's bytes, the highest first. -/
def bgL (N : Int) : List Int := (List.range 32).map (byt N)
theorem bgL_at (N : Int) (j : Nat) (hj : j < 32) : (bgL N)[j]? = some (byt N j) := by simp [bgL, hj]
theorem big_any (N : Int) (hN : 0 ≤ N) (hN' : N < top256) (w : World) :
    Calls Try.prog 16 #[nv N] w fun e w' => e = .returned (.string (mkS (bgL N))) ∧ Below w.heap.size w w' := by
  have hat := bytsL_at N
  refine big_core N (bytsL N) (mkS (bgL N)) (bytsL_len N) (fun W => store32 _ (bytsL_len N) (bytsL_one N) W) (fun W => ?_) (fun W => bigBytes_any N hN hN' W) w
  refine conv32 _ _ _ (by simp [bgL]) ?_
  intro j hj
  have := (Arr.new W (bytsL N).toArray 57 W.heap.size rfl (fun j => .int .u8 (byt N j)) 32 (by intro i hi; rw [List.getElem?_toArray]; exact hat i hi)).c j hj
  rw [this, List.getD, bgL_at N j hj]; rfl
end Go.Proofs.Ytpigofooblmdhaa
/- What slices.Reverse does to 32 bytes of the call's own; num.Little, num.FromLittle. -/
set_option linter.all false
set_option maxRecDepth 100000
namespace Go.Proofs.Ytpigofooblmdhaa
open Go.RowKit
/-- What block b holds when k swaps are over. -/
def rv (f : Nat → Int) (k m : Nat) : Int := if m < k ∨ 31 < m + k then f (31 - m) else f m
set_option maxHeartbeats 4000000 in
theorem reverse_any (b cap : Nat) (f : Nat → Int) (w : World) (hA : Arr w b 32 (fun m => .int .u8 (f m))) :
    Calls Try.prog 54 #[.slice (some ⟨b, 0, none⟩) 32 cap] w fun e w' => (∃ v, e = .returned v) ∧ Below b w w' ∧ w'.heap.size = w.heap.size ∧ Arr w' b 32 (fun m => .int .u8 (f (31 - m))) := by
  go_enter Try.func54, Try.ntmps54
  go_wp2_with fail
  go_loopw [2, 3] (fun i j wr => ∃ k : Nat, k ≤ 16 ∧ i = .int .i64 k ∧ j = .int .i64 (31 - (k : Int)) ∧ Below b w wr ∧ wr.heap.size = w.heap.size ∧ Arr wr b 32 (fun m => .int .u8 (rv f k m)))
    (fun i _ _ => 16 - (intOf i).toNat)
  case atStart => exact ⟨0, by omega, rfl, rfl, Below.refl _ _, rfl, hA.congr (by intro j hj; unfold rv; rw [if_neg (by omega)])⟩
  case round =>
    clear hA
    obtain ⟨k, hk, rfl, rfl, hB, hS, hA⟩ := hrel
    by_cases hlt : k < 16
    · have k0 : (0 : Int) ≤ (k : Int) := by omega
      have k31 : (k : Int) < 31 - (k : Int) := by omega
      have k32 : (k : Int) < 32 := by omega
      obtain ⟨q, hq⟩ : ∃ q : Nat, (31 : Int) - (k : Int) = (q : Int) := ⟨31 - k, by omega⟩
      rw [hq]
      rw [hq] at k31
      have q0 : (0 : Int) ≤ (q : Int) := by omega
      have q32 : (q : Int) < 32 := by omega
      have qk : q = 31 - k := by omega
      have rk : wr.cell? ⟨b, k, none⟩ = some (.int .u8 (f k)) := by
        have := hA.c k (by omega); unfold rv at this; rw [if_neg (by omega)] at this; exact this
      have rq : wr.cell? ⟨b, q, none⟩ = some (.int .u8 (f q)) := by
        have := hA.c q (by omega); unfold rv at this; rw [if_neg (by omega)] at this; exact this
      have zk := hA.z k (by omega)
      have zq := hA.z q (by omega)
      have nkq : ¬ k = q := by omega
      have nqk : ¬ q = k := by omega
      have st : Arr ((wr.setCell ⟨b, k, none⟩ (.int .u8 (f q))).setCell ⟨b, q, none⟩ (.int .u8 (f k))) b 32 (fun m => .int .u8 (rv f (k + 1) m)) := by
        refine ((hA.set k (by omega) (.int .u8 (f q))).set q (by omega) (.int .u8 (f k))).congr ?_
        intro m hm
        unfold rv
        by_cases e1 : m = q
        · rw [if_pos e1, if_pos (by omega), show 31 - m = k by omega]
        · rw [if_neg e1]
          by_cases e2 : m = k
          · rw [if_pos e2, if_pos (by omega), show 31 - m = q by omega]
          · rw [if_neg e2]
            by_cases e3 : m < k ∨ 31 < m + k
            · rw [if_pos e3, if_pos (by omega)]
            · rw [if_neg e3, if_neg (by omega)]
      have sB : Below b w ((wr.setCell ⟨b, k, none⟩ (.int .u8 (f q))).setCell ⟨b, q, none⟩ (.int .u8 (f k))) := (hB.setCell (by show _ ≤ b; omega) _).setCell (by show _ ≤ b; omega) _
      have HK : Hid (q = 31 - k) := qk
      clear qk hA hB hq
      go_wp2_with fail
      go_region
      go_wp2_with fail
      exact ⟨⟨k + 1, by omega, by go_num, by have := HK.out; go_num, sB.drew, by simp only [World.size_drew, size_set]; exact hS, st.drew⟩, by simp [intOf]; omega⟩
    · have e16 : k = 16 := by omega
      subst e16
      have fin : Arr wr b 32 (fun m => .int .u8 (f (31 - m))) := hA.congr (by intro m hm; unfold rv; rw [if_pos (by omega)])
      clear hA
      go_wp2_with fail
      go_end0
      exact ⟨⟨_, rfl⟩, hB, hS, fin⟩
set_option maxHeartbeats 1000000 in
theorem little_core (N : Int) (L : List Value) (S : ByteArray) (g : Nat → Int) (hlen : L.length = 32) (hat : Hid (∀ j, j < 32 → L[j]? = some (.int .u8 (g j)))) (ST : ∀ W : World, (storeCells ⟨W.heap.size, 0, none⟩ L).run Try.prog (W.alloc (.cells #[.int .u8 0, .int .u8 0, .int .u8 0, .int .u8 0, .int .u8 0, .int .u8 0, .int .u8 0, .int .u8 0, .int .u8 0, .int .u8 0, .int .u8 0, .int .u8 0, .int .u8 0, .int .u8 0, .int .u8 0, .int .u8 0, .int .u8 0, .int .u8 0, .int .u8 0, .int .u8 0, .int .u8 0, .int .u8 0, .int .u8 0, .int .u8 0, .int .u8 0, .int .u8 0, .int .u8 0, .int .u8 0, .int .u8 0, .int .u8 0, .int .u8 0, .int .u8 0] 57)) = .ok () (W.alloc (.cells L.toArray 57)))
    (CV : Hid (∀ (W : World) b, Arr W b 32 (fun m => .int .u8 (g (31 - m))) → (convert 43 9 (.slice (some ⟨b, 0, none⟩) 32 32)).run Try.prog W = .ok (.string S) W))
    (BB : ∀ W, Calls Try.prog 55 #[nv N] W fun e w' => e = .returned (.agg L.toArray) ∧ Below W.heap.size W w') (w : World) :
    Calls Try.prog 18 #[nv N] w fun e w' => e = .returned (.string S) ∧ Below w.heap.size w w' := by
  go_enter Try.func18, Try.ntmps18
  go_wp2_with fail
  refine (BB _).mono ?_
  rintro e w1 ⟨rfl, hb1⟩
  have hB1 : Below w.heap.size w w1 := Below.trans (by go_grown) (hb1.mono (by go_size))
  have hA : Arr (w1.alloc (.cells L.toArray 57)) w1.heap.size 32 (fun m => .int .u8 (g m)) := Arr.new _ _ _ _ rfl _ 32 (by intro i hi; rw [List.getElem?_toArray]; exact hat.out i hi)
  clear hb1 BB
  go_wp2_with fail
  refine (reverse_any w1.heap.size 32 g _ hA).mono ?_
  rintro e w2 ⟨⟨v, rfl⟩, hb2, hs2, hA2⟩
  have cv := CV.out w2 w1.heap.size hA2
  have hB2 : Below w.heap.size w w2 := (hB1.alloc hB1.size _).trans (hb2.mono hB1.size)
  clear hA hA2 hb2
  go_wp2_with fail
  go_ret
  exact ⟨rfl, hB2⟩
/-- A number's bytes, the lowest first. -/
def ltL (N : Int) : List Int := (List.range 32).map fun j => byt N (31 - j)
theorem ltL_at (N : Int) (j : Nat) (hj : j < 32) : (ltL N)[j]? = some (byt N (31 - j)) := by simp [ltL, hj]
theorem little_any (N : Int) (hN : 0 ≤ N) (hN' : N < top256) (w : World) :
    Calls Try.prog 18 #[nv N] w fun e w' => e = .returned (.string (mkS (ltL N))) ∧ Below w.heap.size w w' := by
  refine little_core N (bytsL N) (mkS (ltL N)) (byt N) (bytsL_len N) (bytsL_at N) (fun W => store32 _ (bytsL_len N) (bytsL_one N) W) (fun W b hA => ?_) (fun W => bigBytes_any N hN hN' W) w
  refine conv32 _ _ _ (by simp [ltL]) ?_
  intro j hj
  rw [hA.c j hj, List.getD, ltL_at N j hj]; rfl
theorem convN (W : World) (g cap : Nat) (ns : List Int) (h32 : ns.length = 32) (hc : ∀ j, j < 32 → W.cell? ⟨g, j, none⟩ = some (.int .u8 (ns.getD j 0))) :
    (convert 43 9 (.slice (some ⟨g, 0, none⟩) 32 cap)).run Try.prog W = .ok (.string (mkS ns)) W := by
  rw [run_convert_bytes_string W 43 9 5 _ 32 cap Try.underlying43 Try.underlying5 Try.underlying9]
  refine run_bytesToString W ⟨g, 0, none⟩ 32 cap ns ?_
  have := run_loadCells_list (P := Try.prog) W ⟨g, 0, none⟩ (ns.map (Value.int .u8)) (by
    intro j v hv
    rw [Addr.add_mid, Nat.zero_add]
    rw [List.getElem?_map] at hv
    obtain ⟨n, hn, rfl⟩ := Option.map_eq_some_iff.1 hv
    have hj : j < 32 := by rw [← h32]; exact (List.getElem?_eq_some_iff.1 hn).1
    rw [hc j hj, List.getD, hn]; rfl)
  rw [List.length_map, h32] at this
  exact this
/-- A text's bytes turned round. -/
def tnL (s : ByteArray) : List Int := (List.range 32).map fun j => bt s (31 - j)
theorem tnL_at (s : ByteArray) (j : Nat) (hj : j < 32) : (tnL s)[j]? = some (bt s (31 - j)) := by simp [tnL, hj]
theorem toBytes (s : ByteArray) (hs : s.size = 32) (W : World) : ∃ (cap : Nat) (o : Obj), (convert 9 43 (.string s)).run Try.prog W = .ok (.slice (some ⟨W.heap.size, 0, none⟩) 32 cap) (W.drew.alloc o) ∧ Arr (W.drew.alloc o) W.heap.size 32 (fun m => .int .u8 (bt s m)) := by
  have h := run_bytes_of_string (P := Try.prog) W 9 43 5 s Try.underlying9 Try.underlying43 Try.underlying5
  rw [hs] at h
  refine ⟨_, _, h, ?_⟩
  intro j hj
  have hh : ∀ o : Obj, (W.drew.alloc o).heap[W.heap.size]? = some o := fun o => by
    show (W.heap.push o)[W.heap.size]? = some o
    simp
  have hrow : ∀ cap, (bytesRow s cap)[j]? = some (.int .u8 (bt s j)) := fun cap => by
    unfold bytesRow bt
    have hj' : j < s.data.size := by have : s.data.size = 32 := hs; omega
    rw [Array.getElem?_append_left (by rw [Array.size_map]; exact hj'), Array.getElem?_map, Array.getElem?_eq_getElem hj']
    rfl
  have hsz : ∀ cap, 32 ≤ (bytesRow s cap).size := fun cap => by
    unfold bytesRow
    rw [Array.size_append, Array.size_map]
    have : s.data.size = 32 := hs
    omega
  constructor
  · unfold World.cell?
    simp only [hh]
    exact hrow _
  · unfold World.frozen?
    simp only [hh]
    have := hsz (grownCap W 32 0 5)
    rw [Bool.and_eq_false_iff]
    left
    simp
    omega
set_option maxRecDepth 100000 in
set_option maxHeartbeats 2000000 in
theorem fromLittle_ok (s : ByteArray) (hs : s.size = 32) (R : Int) (FB : ∀ W, Calls Try.prog 10 #[.string (mkS (tnL s))] W fun e w' => e = .returned (.tuple #[nv R, .int .i64 0]) ∧ Below W.heap.size W w') (w : World) :
    Calls Try.prog 12 #[.string s] w fun e w' => e = .returned (.tuple #[nv R, .int .i64 0]) ∧ Below w.heap.size w w' := by
  have LE := fun W => lengthError_any s 32 (by rw [hs]; decide) W
  have le0 : lenE (s.size : Int) 32 = 0 := by rw [hs]; decide
  rw [le0] at LE
  obtain ⟨cap, o, cv, hA⟩ := toBytes s hs (w.alloc (.cells #[.int .u64 0, .int .u64 0, .int .u64 0, .int .u64 0] 24))
  rw [World.size_alloc] at cv hA
  have HA : Hid (Arr ((w.alloc (.cells #[.int .u64 0, .int .u64 0, .int .u64 0, .int .u64 0] 24)).drew.alloc o) (w.heap.size + 1) 32 (fun m => .int .u8 (bt s m))) := hA
  clear hA hs le0
  generalize hT : mkS (tnL s) = T at FB
  have HT : Hid (mkS (tnL s) = T) := hT
  clear hT
  go_enter Try.func12, Try.ntmps12
  go_wp2_with (go_at_call 48; refine (LE _).mono ?_; rintro e w1 ⟨rfl, rfl⟩)
  refine (reverse_any (w.heap.size + 1) cap (bt s) _ HA.out).mono ?_
  rintro e w2 ⟨⟨v, rfl⟩, hb2, hs2, hA2⟩
  have cv2 := convN w2 (w.heap.size + 1) cap (tnL s) (by simp [tnL]) (by intro j hj; rw [hA2.c j hj, List.getD, tnL_at s j hj]; rfl)
  rw [HT.out] at cv2
  have Z2 : Arr w2 w.heap.size 4 (fun _ => .int .u64 0) := (Arr.mk4 (w := (w.alloc (.cells #[.int .u64 0, .int .u64 0, .int .u64 0, .int .u64 0] 24)).drew.alloc o) (b := w.heap.size) (f := fun _ => .int .u64 0) (by simp [go_sem]) (by simp [go_sem]) (by simp [go_sem]) (by simp [go_sem]) (by simp [go_sem]) (by simp [go_sem]) (by simp [go_sem]) (by simp [go_sem])).below hb2 (by omega)
  have hB2 : Below w.heap.size w w2 := Below.trans (by go_grown) (hb2.mono (by omega))
  have s2 : w.heap.size < w2.heap.size := by have := hB2.size; simp at hs2; omega
  clear hA2 hb2 HA HT cv LE
  go_wp2_with fail
  refine (FB _).mono ?_
  rintro e w3 ⟨rfl, hb3⟩
  have Z3 := Z2.below hb3 s2
  have hB3 : Below w.heap.size w w3 := hB2.trans (hb3.mono hB2.size)
  have r0 := Z3.c
  have z0 := Z3.z
  clear hb3 Z2 Z3 FB cv2
  go_wp2_with fail
  refine bodyPost_ret (v := .tuple #[nv R, .int .i64 0]) (by simp [results, Try.results12, go_sem, r0]) rfl ⟨rfl, ?_⟩
  go_grown
end Go.Proofs.Ytpigofooblmdhaa
