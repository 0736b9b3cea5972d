/- Blocks counted on from a first one, handed out without an end. -/
import Derived.Test.YtnmikancbfaejaaD1
import Derived.Deep.LoopGhost
set_option linter.all false
set_option maxRecDepth 100000
namespace Go.Proofs.Ytnmikancbfaejaa
open Go.RowKit Go.Shelf Go.Sort
attribute [local go_sem] Oper.semAt_some
theorem wpIn_loop_ghost {F : Fence} {m : Nat} {P : Program} {Q : Exit → Act → World → Prop} {a : Act} {w : World} {c : Code} (I : Nat → Act → World → Prop) (n₀ : Nat) (h₀ : I n₀ a w)
    (round : ∀ n a w, I n a w → c.wpIn F m P (Exit.then (fun a' w' => ∃ n', n' < n ∧ I n' a' w') Q) a w) : (Code.loop c).wpIn F m P Q a w := by
  refine wpIn_loop (fun a w => ∃ n, I n a w) (fun a w => leastOf (fun n => I n a w)) ⟨n₀, h₀⟩ ?_
  intro a w hI
  refine wpIn_mono (round _ a w (leastOf_spec hI).1) ?_
  intro e a' w' hq
  cases e with
  | normal =>
    obtain ⟨n', hn, hi⟩ := hq
    exact ⟨⟨n', hi⟩, Nat.lt_of_le_of_lt ((leastOf_spec ⟨n', hi⟩).2 n' hi) hn⟩
  | ret => exact hq
  | exit id => exact hq
  | goto t => exact hq
  | panic ch => exact hq
  | outgrown => exact hq
/-- The k-th block behind a first one. -/
def ctF (f : Nat → By) : Nat → Nat → By
  | 0 => f
  | k + 1 => nxF (ctF f k)
/-- What a round keeps: all blocks of cells but three. -/
def KC (x0 x1 x2 : Nat) (W W' : World) : Prop := ∀ b n f, b ≠ x0 → b ≠ x1 → b ≠ x2 → Arr W b (n + 1) f → Arr W' b (n + 1) f
theorem KC.t {x0 x1 x2 : Nat} {A B C : World} (h1 : KC x0 x1 x2 A B) (h2 : KC x0 x1 x2 B C) : KC x0 x1 x2 A C := fun b n f e0 e1 e2 h => h2 b n f e0 e1 e2 (h1 b n f e0 e1 e2 h)
theorem KC.b {x0 x1 x2 : Nat} (W : World) (l : Nat) (o o' : Obj) (hl : W.heap[l]? = some o) (hc : o.isCells = false) : KC x0 x1 x2 W (W.putObj l o') :=
  fun b n f _ _ _ h => arr_kept h (grownBy_putObj' W l o') (fun r e => by cases e; exact ⟨o, hl, hc⟩)
theorem KC.g {x0 x1 x2 : Nat} (A B : World) (h : A.grownBy B none) : KC x0 x1 x2 A B := fun b n f _ _ _ hA => arr_kept hA h (fun r e => by cases e)
theorem KC.one {x0 x1 x2 x : Nat} {A B : World} (h : A.grownBy B (some x)) (hx : x = x0 ∨ x = x1 ∨ x = x2) : KC x0 x1 x2 A B := fun b n f e0 e1 e2 hA => gb_arr h (by omega) hA
def MkC (pre : List Nat) (x : Nat) (W : World) : Prop := x = pre.length ∧ pre = List.range x
def encC (f : Nat → By) (x : Nat) : Array Value := #[bv (col (ctF f x))]
set_option maxHeartbeats 4000000 in
theorem counted1_in (f : Nat → By) (n l bx x0 x1 x2 N : Nat) (hn : 1 ≤ n) (Jv Jx : List Nat → World → Prop) {B : Nat} (hJ : AbidesFrom B Jv) (hN : ∀ s A, Jv s A → s.length < N)
    (hY : ∀ pre (x : Nat) W, Jv pre W → MkC pre x W → YieldAt Fence.wide (n - 1) Try.prog l (encC f x) W fun e W' => (e = .returned (.bool true) ∧ Jv (pre ++ [x]) W' ∧ KC x0 x1 x2 W W') ∨ (e = .returned (.bool false) ∧ Jx (pre ++ [x]) W'))
    (W : World) (h0' : x0 < W.heap.size) (h1' : x1 < W.heap.size) (h2' : x2 < W.heap.size) (hA : Arr W bx 4 (fun j => .int .u32 (col f j))) (h0 : Jv [] W) :
    CallsIn Fence.wide n Try.prog 52 #[.func (.yield l) #[] #[], .pointer (some ⟨bx, 0, none⟩)] W fun e W' => (∃ v, e = .returned v) ∧
      ((∃ ys : List Nat, False ∧ Jv ys W' ∧ True) ∨ (∃ pre : List Nat, True ∧ Jx pre W')) := by
  have hd : 1 ≤ n := hn
  refine callsIn_of_wp Try.func52 rfl trivial ?_ rfl
  simp only [Try.ntmps52, List.size_toArray, List.length_cons, List.length_nil, Nat.reduceAdd, Nat.reduceSub, Array.replicate_succ, Array.replicate_zero, List.push_toArray, List.append_toArray, List.nil_append, List.cons_append]
  have cb := hA.c
  gi_wp2
  refine wpIn_loop_ghost (fun g a wr => ∃ (k p : Nat) (u5 u6 u7 u8 u9 u10 : Value), a = { tmps := #[.func (.yield l) #[] #[], .pointer (some ⟨bx, 0, none⟩), undef, .pointer (some ⟨p, 0, none⟩), .agg #[.int .u32 (col f 0), .int .u32 (col f 1), .int .u32 (col f 2), .int .u32 (col f 3)], u5, u6, u7, u8, u9, u10], defers := [] } ∧ g + k = N ∧ Jv (List.range k) wr ∧ Arr wr p 4 (fun j => .int .u32 (col (ctF f k) j)) ∧ W.heap.size ≤ p) N ?start ?round
  case start =>
    refine ⟨0, W.heap.size, _, _, _, _, _, _, rfl, by omega, ?_, Arr.new _ _ 68 _ rfl _ 4 (h4_at _), Nat.le_refl _⟩
    exact hJ _ W _ none h0 (World.grownBy_alloc W _ none) (fun r e => by cases e)
  case round =>
    clear h0 cb hA
    rintro g a wr ⟨k, p, u5, u6, u7, u8, u9, u10, rfl, hgk, hJs, hP, hp⟩
    have hkN := hN _ _ hJs
    rw [List.length_range] at hkN
    have cp := hP.c
    obtain ⟨fn, tmps, assign, body, hy, hR⟩ := hY (List.range k) k wr hJs ⟨by simp, rfl⟩
    unfold encC bv at hy
    have NX := fun A => next_any (ctF f k) A
    have HCT : Hid (ctF f (k + 1) = nxF (ctF f k)) := rfl
    have HGK : Hid (g + k = N) := hgk
    clear hJs hgk
    unfold bv at NX
    obtain ⟨y, hy2⟩ : ∃ y, col (ctF f k) = y := ⟨_, rfl⟩
    obtain ⟨z, hz2⟩ : ∃ z, col (nxF (ctF f k)) = z := ⟨_, rfl⟩
    rw [hy2] at hy cp hP NX
    rw [hz2] at NX
    have HZ : Hid (col (nxF (ctF f k)) = z) := hz2
    clear hy2 hz2
    gi_wp2
    refine hR.mono ?_
    rintro e W3 (⟨rfl, hJ3, hK⟩ | ⟨rfl, hJx3⟩)
    · have P3 := hK p 3 _ (by omega) (by omega) (by omega) hP
      have c3 := P3.c
      clear cp hP hy hR
      gi_wp2_with (refine ⟨trivial, ?_⟩; gi_at_call 53; refine (callsIn_wide.2 (NX _)).mono ?_; rintro e W4 ⟨rfl, hb⟩; have N4 := (Arr.new W3 #[.int .u32 (y 0), .int .u32 (y 1), .int .u32 (y 2), .int .u32 (y 3)] 68 _ rfl (fun j => .int .u32 (y j)) 4 (h4_at y)).to' hb; have c4 := N4.c; have z4 := N4.z)
      have jB : Below W3.heap.size W3 (st4 W4 W3.heap.size z) := Bel.st4 (Bel.call (Bel.al (Below.refl _ W3) _) hb) (Nat.le_refl _) z
      refine ⟨g - 1, by have := HGK.out; omega, k + 1, W3.heap.size, _, _, _, _, _, _, rfl, by have := HGK.out; omega, ?_, ?_, ?_⟩
      · rw [List.range_succ]
        exact hJ _ W3 _ none hJ3 (gby jB) (fun r e => by cases e)
      · have := N4.st4 z
        rw [← HZ.out, ← HCT.out] at this ⊢
        exact this
      · have := P3.lt
        omega
    · gi_wp2
      go_end0
      exact ⟨⟨_, rfl⟩, .inr ⟨_, trivial, hJx3⟩⟩
theorem counted_seq (f : Nat → By) (n bx x0 x1 x2 N : Nat) (hn : 1 ≤ n) (w0 : World) (h0 : x0 < w0.heap.size) (h1 : x1 < w0.heap.size) (h2 : x2 < w0.heap.size) (hA : Arr w0 bx 4 (fun j => .int .u32 (col f j))) :
    SeqM Fence.wide n Try.prog 52 #[.pointer (some ⟨bx, 0, none⟩)] (encC f) (KC x0 x1 x2) MkC (fun s => s.length < N) (fun _ => False) (fun _ => True) none (fun _ => True) w0 :=
  fun l Jv Jx W hW hJ _ _ hB hY hj => counted1_in f n l bx x0 x1 x2 N hn Jv Jx hJ hB hY W (Nat.lt_of_lt_of_le h0 hW.size) (Nat.lt_of_lt_of_le h1 hW.size) (Nat.lt_of_lt_of_le h2 hW.size) (hA.to' hW) hj
theorem counted_any (x : Nat → Int) (w : World) : Calls Try.prog 37 #[bv x] w fun e w' => e = .returned (.func (.func 52) #[] #[.pointer (some ⟨w.heap.size, 0, none⟩)]) ∧ w' = w.alloc (.cells #[.int .u32 (x 0), .int .u32 (x 1), .int .u32 (x 2), .int .u32 (x 3)] 68) := by
  unfold bv
  go_enter Try.func37, Try.ntmps37
  go_wp2
  go_ret
  exact ⟨rfl, rfl⟩
end Go.Proofs.Ytnmikancbfaejaa
