/- Texts joined: D2, D3. -/
import Derived.Deep.LoopGhost
import Derived.Stop.RegionWithIn
import Derived.Test.YtbodafogiijhnaaJ23
/- Blocks counted on from a first one, handed out without an end. -/
set_option linter.all false
set_option maxRecDepth 100000
namespace Go.Proofs.Ytbodafogiijhnaa
open Go.RowKit Go.Shelf Go.Sort
attribute [local go_sem] Oper.semAt_some
theorem wpIn_loop_ghost {F : Fence} {m : Nat} {P : Program} {Q : Exit → Act → World → Prop} {a : Act} {w : World} {c : Code} (I : Nat → Act → World → Prop) (n₀ : Nat) (h₀ : I n₀ a w)
    (round : ∀ n a w, I n a w → c.wpIn F m P (Exit.then (fun a' w' => ∃ n', n' < n ∧ I n' a' w') Q) a w) : (Code.loop c).wpIn F m P Q a w := by
  refine wpIn_loop (fun a w => ∃ n, I n a w) (fun a w => leastOf (fun n => I n a w)) ⟨n₀, h₀⟩ ?_
  intro a w hI
  refine wpIn_mono (round _ a w (leastOf_spec hI).1) ?_
  intro e a' w' hq
  cases e with
  | normal =>
    obtain ⟨n', hn, hi⟩ := hq
    exact ⟨⟨n', hi⟩, Nat.lt_of_le_of_lt ((leastOf_spec ⟨n', hi⟩).2 n' hi) hn⟩
  | ret => exact hq
  | exit id => exact hq
  | goto t => exact hq
  | panic ch => exact hq
  | outgrown => exact hq
/-- The k-th block behind a first one. -/
def ctF (f : Nat → By) : Nat → Nat → By
  | 0 => f
  | k + 1 => nxF (ctF f k)
/-- What a round keeps: all blocks of cells but three. -/
def KC (x0 x1 x2 : Nat) (W W' : World) : Prop := ∀ b n f, b ≠ x0 → b ≠ x1 → b ≠ x2 → Arr W b (n + 1) f → Arr W' b (n + 1) f
theorem KC.t {x0 x1 x2 : Nat} {A B C : World} (h1 : KC x0 x1 x2 A B) (h2 : KC x0 x1 x2 B C) : KC x0 x1 x2 A C := fun b n f e0 e1 e2 h => h2 b n f e0 e1 e2 (h1 b n f e0 e1 e2 h)
theorem KC.b {x0 x1 x2 : Nat} (W : World) (l : Nat) (o o' : Obj) (hl : W.heap[l]? = some o) (hc : o.isCells = false) : KC x0 x1 x2 W (W.putObj l o') :=
  fun b n f _ _ _ h => arr_kept h (grownBy_putObj' W l o') (fun r e => by cases e; exact ⟨o, hl, hc⟩)
theorem KC.g {x0 x1 x2 : Nat} (A B : World) (h : A.grownBy B none) : KC x0 x1 x2 A B := fun b n f _ _ _ hA => arr_kept hA h (fun r e => by cases e)
theorem KC.one {x0 x1 x2 x : Nat} {A B : World} (h : A.grownBy B (some x)) (hx : x = x0 ∨ x = x1 ∨ x = x2) : KC x0 x1 x2 A B := fun b n f e0 e1 e2 hA => gb_arr h (by omega) hA
def MkC (pre : List Nat) (x : Nat) (W : World) : Prop := x = pre.length ∧ pre = List.range x
def encC (f : Nat → By) (x : Nat) : Array Value := #[bv (col (ctF f x))]
set_option maxHeartbeats 4000000 in
theorem counted1_in (f : Nat → By) (n l bx x0 x1 x2 N : Nat) (hn : 1 ≤ n) (Jv Jx : List Nat → World → Prop) {B : Nat} (hJ : AbidesFrom B Jv) (hN : ∀ s A, Jv s A → s.length < N)
    (hY : ∀ pre (x : Nat) W, Jv pre W → MkC pre x W → YieldAt Fence.wide (n - 1) Try.prog l (encC f x) W fun e W' => (e = .returned (.bool true) ∧ Jv (pre ++ [x]) W' ∧ KC x0 x1 x2 W W') ∨ (e = .returned (.bool false) ∧ Jx (pre ++ [x]) W'))
    (W : World) (h0' : x0 < W.heap.size) (h1' : x1 < W.heap.size) (h2' : x2 < W.heap.size) (hA : Arr W bx 4 (fun j => .int .u32 (col f j))) (h0 : Jv [] W) :
    CallsIn Fence.wide n Try.prog 65 #[.func (.yield l) #[] #[], .pointer (some ⟨bx, 0, none⟩)] W fun e W' => (∃ v, e = .returned v) ∧
      ((∃ ys : List Nat, False ∧ Jv ys W' ∧ True) ∨ (∃ pre : List Nat, True ∧ Jx pre W')) := by
  have hd : 1 ≤ n := hn
  refine callsIn_of_wp Try.func65 rfl trivial ?_ rfl
  simp only [Try.ntmps65, List.size_toArray, List.length_cons, List.length_nil, Nat.reduceAdd, Nat.reduceSub, Array.replicate_succ, Array.replicate_zero, List.push_toArray, List.append_toArray, List.nil_append, List.cons_append]
  have cb := hA.c
  gi_wp2
  refine wpIn_loop_ghost (fun g a wr => ∃ (k p : Nat) (u5 u6 u7 u8 u9 u10 : Value), a = { tmps := #[.func (.yield l) #[] #[], .pointer (some ⟨bx, 0, none⟩), undef, .pointer (some ⟨p, 0, none⟩), .agg #[.int .u32 (col f 0), .int .u32 (col f 1), .int .u32 (col f 2), .int .u32 (col f 3)], u5, u6, u7, u8, u9, u10], defers := [] } ∧ g + k = N ∧ Jv (List.range k) wr ∧ Arr wr p 4 (fun j => .int .u32 (col (ctF f k) j)) ∧ W.heap.size ≤ p) N ?start ?round
  case start =>
    refine ⟨0, W.heap.size, _, _, _, _, _, _, rfl, by omega, ?_, Arr.new _ _ 89 _ rfl _ 4 (h4_at _), Nat.le_refl _⟩
    exact hJ _ W _ none h0 (World.grownBy_alloc W _ none) (fun r e => by cases e)
  case round =>
    clear h0 cb hA
    rintro g a wr ⟨k, p, u5, u6, u7, u8, u9, u10, rfl, hgk, hJs, hP, hp⟩
    have hkN := hN _ _ hJs
    rw [List.length_range] at hkN
    have cp := hP.c
    obtain ⟨fn, tmps, assign, body, hy, hR⟩ := hY (List.range k) k wr hJs ⟨by simp, rfl⟩
    unfold encC bv at hy
    have NX := fun A => next_any (ctF f k) A
    have HCT : Hid (ctF f (k + 1) = nxF (ctF f k)) := rfl
    have HGK : Hid (g + k = N) := hgk
    clear hJs hgk
    unfold bv at NX
    obtain ⟨y, hy2⟩ : ∃ y, col (ctF f k) = y := ⟨_, rfl⟩
    obtain ⟨z, hz2⟩ : ∃ z, col (nxF (ctF f k)) = z := ⟨_, rfl⟩
    rw [hy2] at hy cp hP NX
    rw [hz2] at NX
    have HZ : Hid (col (nxF (ctF f k)) = z) := hz2
    clear hy2 hz2
    gi_wp2
    refine hR.mono ?_
    rintro e W3 (⟨rfl, hJ3, hK⟩ | ⟨rfl, hJx3⟩)
    · have P3 := hK p 3 _ (by omega) (by omega) (by omega) hP
      have c3 := P3.c
      clear cp hP hy hR
      gi_wp2_with (refine ⟨trivial, ?_⟩; gi_at_call 66; refine (callsIn_wide.2 (NX _)).mono ?_; rintro e W4 ⟨rfl, hb⟩; have N4 := (Arr.new W3 #[.int .u32 (y 0), .int .u32 (y 1), .int .u32 (y 2), .int .u32 (y 3)] 89 _ rfl (fun j => .int .u32 (y j)) 4 (h4_at y)).to' hb; have c4 := N4.c; have z4 := N4.z)
      have jB : Below W3.heap.size W3 (st4 W4 W3.heap.size z) := Bel.st4 (Bel.call (Bel.al (Below.refl _ W3) _) hb) (Nat.le_refl _) z
      refine ⟨g - 1, by have := HGK.out; omega, k + 1, W3.heap.size, _, _, _, _, _, _, rfl, by have := HGK.out; omega, ?_, ?_, ?_⟩
      · rw [List.range_succ]
        exact hJ _ W3 _ none hJ3 (gby jB) (fun r e => by cases e)
      · have := N4.st4 z
        rw [← HZ.out, ← HCT.out] at this ⊢
        exact this
      · have := P3.lt
        omega
    · gi_wp2
      go_end0
      exact ⟨⟨_, rfl⟩, .inr ⟨_, trivial, hJx3⟩⟩
theorem counted_seq (f : Nat → By) (n bx x0 x1 x2 N : Nat) (hn : 1 ≤ n) (w0 : World) (h0 : x0 < w0.heap.size) (h1 : x1 < w0.heap.size) (h2 : x2 < w0.heap.size) (hA : Arr w0 bx 4 (fun j => .int .u32 (col f j))) :
    SeqM Fence.wide n Try.prog 65 #[.pointer (some ⟨bx, 0, none⟩)] (encC f) (KC x0 x1 x2) MkC (fun s => s.length < N) (fun _ => False) (fun _ => True) none (fun _ => True) w0 :=
  fun l Jv Jx W hW hJ _ _ hB hY hj => counted1_in f n l bx x0 x1 x2 N hn Jv Jx hJ hB hY W (Nat.lt_of_lt_of_le h0 hW.size) (Nat.lt_of_lt_of_le h1 hW.size) (Nat.lt_of_lt_of_le h2 hW.size) (hA.to' hW) hj
theorem counted_any (x : Nat → Int) (w : World) : Calls Try.prog 50 #[bv x] w fun e w' => e = .returned (.func (.func 65) #[] #[.pointer (some ⟨w.heap.size, 0, none⟩)]) ∧ w' = w.alloc (.cells #[.int .u32 (x 0), .int .u32 (x 1), .int .u32 (x 2), .int .u32 (x 3)] 89) := by
  unfold bv
  go_enter Try.func50, Try.ntmps50
  go_wp2
  go_ret
  exact ⟨rfl, rfl⟩
end Go.Proofs.Ytbodafogiijhnaa
/- A stream's bytes: the program's. -/
set_option linter.all false
set_option maxRecDepth 100000
namespace Go.Proofs.Ytbodafogiijhnaa
open Go.RowKit Go.Shelf Go.Sort Go.Lib
attribute [local go_sem] Oper.semAt_some
/-- The first k blocks of a stream. -/
def stS (key : ByteArray) (f : Nat → By) : Nat → ByteArray
  | 0 => ⟨#[]⟩
  | k + 1 => stS key f k ++ tx (encF key (ctF f k))
theorem stS_size (key : ByteArray) (f : Nat → By) (k : Nat) : (stS key f k).size = 16 * k := by
  induction k with
  | zero => rfl
  | succ k ih => rw [stS, ByteArray.size_append, ih, tx_size]; omega
/-- n bytes of a stream. -/
def smS (key : ByteArray) (f : Nat → By) (n : Nat) : ByteArray := (stS key f ((n + 15) / 16)).extract 0 n
theorem smS_size (key : ByteArray) (f : Nat → By) (n : Nat) : (smS key f n).size = n := by unfold smS; rw [ByteArray.size_extract, stS_size]; omega
theorem stS_pre (key : ByteArray) (f : Nat → By) (k d n : Nat) (h : n ≤ 16 * k) : (stS key f (k + d)).extract 0 n = (stS key f k).extract 0 n := by
  induction d with
  | zero => rfl
  | succ d ih => rw [← Nat.add_assoc, stS, ext_app_lo _ _ _ (by rw [stS_size]; omega), ih]
theorem smS_pre (key : ByteArray) (f : Nat → By) (n m : Nat) (h : n ≤ m) : (smS key f m).extract 0 n = smS key f n := by
  unfold smS
  obtain ⟨d, hd⟩ := Nat.exists_eq_add_of_le (show (n + 15) / 16 ≤ (m + 15) / 16 by omega)
  rw [ByteArray.extract_extract, hd, show min (0 + n) m = n by omega, stS_pre _ _ _ _ _ (by omega)]
theorem hf_tx (h : Nat → By) : (hfL (col h) 4).map (Value.int .u8) = strCells (tx h) := by
  rw [← txt_col]
  unfold txt strCells
  rw [mkS_list, List.map_map]
  refine List.map_congr_left fun v hv => ?_
  have e : hfL (col h) 4 = (List.range 16).map fun j => ((h j).val : Int) := by
    unfold hfL hfL hfL hfL hfL col
    simp only [w4_wd]
    rfl
  rw [e] at hv
  obtain ⟨j, _, rfl⟩ := List.mem_map.1 hv
  have := (h j).2
  simp
theorem ownsRow_take {w : World} {base g n k cap : Nat} {xs : List Value} (h : w.ownsRow base 5 1 (.slice (some ⟨g, 0, none⟩) n cap) n xs) (hk : k ≤ n) : w.ownsRow base 5 1 (.slice (some ⟨g, 0, none⟩) k cap) k (xs.take k) := by
  obtain ⟨hl, h2⟩ := h
  rcases h2 with ⟨h, _⟩ | ⟨g', cap', cur, hv, hb, hh, hc, hm, hs, ht⟩
  · cases h
  · cases hv
    refine ⟨by rw [List.length_take]; omega, .inr ⟨g, cap, cur, rfl, hb, hh, by omega, hm, hs, ?_⟩⟩
    rw [← ht, List.take_take]
    congr 1
    omega
theorem strCells_take (s : ByteArray) (n : Nat) : (strCells s).take n = strCells (s.extract 0 n) := by
  unfold strCells
  rw [ext_list, List.drop_zero, Nat.sub_zero, ← List.map_take]
/-- What Stream refuses. -/
def rfn (key first : ByteArray) (n : Int) : Int := if n < 0 ∨ 65536 < n then 13 else rfs key first
set_option maxHeartbeats 2000000 in
theorem stream_no (key first : ByteArray) (n : Int) (h : rfn key first n ≠ 0) (w : World) :
    Calls Try.prog 40 #[.string key, .string first, .int .i64 n] w fun e w' => e = .returned (.tuple #[.string ⟨#[]⟩, .int .i64 (rfn key first n)]) ∧ Below w.heap.size w w' := by
  have C := fun W => refused_any key first W
  by_cases h1 : n < 0
  · have e : rfn key first n = 13 := by unfold rfn; rw [if_pos (.inl h1)]
    rw [e]
    clear e h
    go_enter Try.func40, Try.ntmps40
    go_wp2_with fail
    refine bodyPost_ret (v := .tuple #[.string ⟨#[]⟩, .int .i64 13]) (by simp [results, Try.results40, go_sem]) rfl ?_
    exact ⟨rfl, Bel.al (Below.refl _ w) _⟩
  · by_cases h2 : 65536 < n
    · have e : rfn key first n = 13 := by unfold rfn; rw [if_pos (.inr h2)]
      rw [e]
      clear e h
      go_enter Try.func40, Try.ntmps40
      go_wp2_with fail
      refine bodyPost_ret (v := .tuple #[.string ⟨#[]⟩, .int .i64 13]) (by simp [results, Try.results40, go_sem]) rfl ?_
      exact ⟨rfl, Bel.al (Below.refl _ w) _⟩
    · have e : rfn key first n = rfs key first := by unfold rfn; rw [if_neg (by omega)]
      rw [e] at h ⊢
      clear e
      generalize rfs key first = r at *
      go_enter Try.func40, Try.ntmps40
      go_wp2_with (go_at_call 46; refine (C _).mono ?_; rintro e w1 ⟨rfl, rfl⟩)
      refine bodyPost_ret (v := .tuple #[.string ⟨#[]⟩, .int .i64 r]) (by simp [results, Try.results40, go_sem]) rfl ?_
      exact ⟨rfl, Bel.al (Below.refl _ w) _⟩
end Go.Proofs.Ytbodafogiijhnaa
