/- What mod.Add and mod.Sub answer, for any numbers. -/
import Derived.Deep.RegionHeld3
import Derived.Deep.CutRange
import Derived.Test.YtpigofooblmdhaaJ9
import Derived.Test.YtpigofooblmdhaaJ14
set_option linter.all false
namespace Go.Proofs.Ytpigofooblmdhaa
open Go.RowKit
abbrev R4 (w' : World) (b : Nat) (f : Nat → Value) : Prop := ∀ j, j < 4 → w'.cell? ⟨b, j, none⟩ = some (f j)
theorem R4.to {w w' : World} {b n : Nat} {f : Nat → Value} (h : R4 w b f) (hb : Below n w w') (hn : b < n) : R4 w' b f := fun j hj => (hb.cell (p := ⟨b, j, none⟩) hn).trans (h j hj)
theorem R4.al {w : World} {b : Nat} {f : Nat → Value} (h : R4 w b f) (hlt : b < w.heap.size) (o : Obj) : R4 (w.alloc o) b f := fun j hj => (World.cell?_alloc_past (w := w) o b j hlt).trans (h j hj)
theorem R4.ala {w : World} {b : Nat} {f : Nat → Value} {o : Obj} (h : R4 (w.alloc o) b f) (hlt : b < w.heap.size) (o' : Obj) : R4 (w.alloc o') b f := fun j hj => (World.cell?_alloc_past (w := w) o' b j hlt).trans ((World.cell?_alloc_past (w := w) o b j hlt).symm.trans (h j hj))
theorem R4.st {w : World} {b : Nat} {f : Nat → Value} (h : R4 w b f) {b' k : Nat} (hne : b' ≠ b) (v : Value) : R4 (w.setCell ⟨b', k, none⟩ v) b f := fun j hj => by
  rw [World.cell?_setCell_other _ _ _ _ (by intro hh; injection hh with h1 _; exact hne h1)]; exact h j hj
theorem Arr.zal (w : World) : Arr (w.alloc (.cells #[.int .u64 0, .int .u64 0, .int .u64 0, .int .u64 0] 24)) w.heap.size 4 (fun _ => .int .u64 0) :=
  Arr.mk4 (by simp [go_sem]) (by simp [go_sem]) (by simp [go_sem]) (by simp [go_sem]) (by simp [go_sem]) (by simp [go_sem]) (by simp [go_sem]) (by simp [go_sem])
theorem R4.of {w : World} {b : Nat} {f : Nat → Value} (h0 : w.cell? ⟨b, 0, none⟩ = some (f 0)) (h1 : w.cell? ⟨b, 1, none⟩ = some (f 1)) (h2 : w.cell? ⟨b, 2, none⟩ = some (f 2)) (h3 : w.cell? ⟨b, 3, none⟩ = some (f 3)) : R4 w b f := by
  intro j hj
  have h : j = 0 ∨ j = 1 ∨ j = 2 ∨ j = 3 := by omega
  rcases h with rfl | rfl | rfl | rfl <;> assumption
theorem Arr.zald (w : World) : Arr ((w.alloc (.cells #[.int .u64 0, .int .u64 0, .int .u64 0, .int .u64 0] 24)).drew) w.heap.size 4 (fun _ => .int .u64 0) := (Arr.zal w).drew
theorem Bel.call {w W w' : World} (h : Below w.heap.size w W) (hb : Below W.heap.size W w') : Below w.heap.size w w' := h.trans (hb.mono h.size)
theorem Bel.al {w W : World} (h : Below w.heap.size w W) (o : Obj) : Below w.heap.size w (W.alloc o) := h.alloc h.size o
theorem Bel.ala {w W : World} {o : Obj} (h : Below w.heap.size w (W.alloc o)) (hs : w.heap.size ≤ W.heap.size) (o' : Obj) : Below w.heap.size w (W.alloc o') :=
  ⟨h.os, h.tape, h.output, by simp; omega, fun k hk => by
    have := h.block k hk
    rw [← this]
    show (W.heap.push o')[k]? = (W.heap.push o)[k]?
    rw [Array.getElem?_push_lt (by omega), Array.getElem?_push_lt (by omega)]⟩
theorem Bel.st {w W : World} (h : Below w.heap.size w W) {b k : Nat} (hle : w.heap.size ≤ b) (v : Value) : Below w.heap.size w (W.setCell ⟨b, k, none⟩ v) := h.setCell (p := ⟨b, k, none⟩) hle v
theorem Arr.ala {w : World} {b n : Nat} {f : Nat → Value} {o : Obj} (h : Arr (w.alloc o) b n f) (hlt : b < w.heap.size) (o' : Obj) : Arr (w.alloc o') b n f := fun j hj =>
  ⟨(World.cell?_alloc_past (w := w) o' b j hlt).trans ((World.cell?_alloc_past (w := w) o b j hlt).symm.trans (h j hj).1), (World.frozen?_alloc_past (w := w) o' b j hlt).trans ((World.frozen?_alloc_past (w := w) o b j hlt).symm.trans (h j hj).2)⟩
set_option maxHeartbeats 2000000 in
theorem madd_core (A B M S c R : Int) (f : Int → Int) (w : World)
    (C1 : ∀ N W, N = A ∨ N = B → Calls Try.prog 62 #[nv N, nv M] W fun e w' => e = .returned (nv (f N)) ∧ Below W.heap.size W w')
    (C3 : ∀ W, Calls Try.prog 56 #[nv (f A), nv (f B)] W fun e w' => e = .returned (.tuple #[nv S, .int .u64 c]) ∧ Below W.heap.size W w')
    (H : (c = 0 ∧ (∀ W, Calls Try.prog 63 #[nv S, nv M] W fun e w' => e = .returned (.int .i64 (-1)) ∧ Below W.heap.size W w') ∧ R = S) ∨
      ((c = 1 ∨ (c = 0 ∧ ∃ x : Int, ¬ x < 0 ∧ ∀ W, Calls Try.prog 63 #[nv S, nv M] W fun e w' => e = .returned (.int .i64 x) ∧ Below W.heap.size W w')) ∧
        ∃ d : Value, ∀ W, Calls Try.prog 64 #[nv S, nv M] W fun e w' => e = .returned (.tuple #[nv R, d]) ∧ Below W.heap.size W w')) :
    Calls Try.prog 29 #[nv A, nv B, nv M] w fun e w' => e = .returned (nv R) ∧ Below w.heap.size w w' := by
  go_enter Try.func29, Try.ntmps29
  go_upto_region 1 with fail
  go_cut [7, 8] from 9 to 18 (fun s7 s8 wx => ∃ b : Nat, s7 = .pointer (some ⟨b, 0, none⟩) ∧ s8 = .int .u64 c ∧ w.heap.size + 1 + 1 + 1 < b ∧ b < wx.heap.size ∧ Arr wx b 4 (fun j => .int .u64 (lim S j)) ∧
     (R4 wx (w.heap.size + 1 + 1) (fun j => .int .u64 (lim M j)) ∧ Arr wx (w.heap.size + 1 + 1 + 1) 4 (fun _ => .int .u64 0) ∧ Below w.heap.size w wx))
  case first =>
    go_region_held3 (fun w' => R4 w' w.heap.size (fun j => .int .u64 (lim A j)) ∧ R4 w' (w.heap.size + 1) (fun j => .int .u64 (lim B j)) ∧ R4 w' (w.heap.size + 1 + 1) (fun j => .int .u64 (lim M j)) ∧ Arr w' (w.heap.size + 1 + 1 + 1) 4 (fun _ => .int .u64 0) ∧ Below w.heap.size w w')
      ((go_split_ands; refine ⟨?_, ?_, ?_, ?_, ?_⟩ <;> (first | (with_reducible assumption) | (apply R4.of <;> (simp [go_sem]; done)) | (apply Arr.mk4 <;> (simp [go_sem]; done)) | ((with_reducible refine Bel.call ?_ hbc); (with_reducible assumption)) | (go_grown; done) | ((with_reducible refine R4.to ?_ hbc ?_) <;> (first | (with_reducible assumption) | (go_size; done) | fail)) | ((with_reducible refine Arr.below ?_ hbc ?_) <;> (first | (with_reducible assumption) | (go_size; done) | fail)) | ((with_reducible refine R4.ala (by with_reducible assumption) ?_ _); go_size; done) | ((with_reducible refine Arr.ala (by with_reducible assumption) ?_ _); go_size; done) | ((with_reducible refine Bel.ala (by with_reducible assumption) ?_ _); go_size; done) | (repeat (first | (with_reducible assumption) | (with_reducible refine R4.st ?_ (by go_size) _) | (with_reducible refine R4.al ?_ (by go_size) _) | (with_reducible refine Arr.other ?_ (by go_size) _) | (with_reducible refine Arr.alloc ?_ (by go_size) _) | (with_reducible refine Bel.st ?_ (by go_size) _) | (with_reducible refine Bel.al ?_ _))) | fail)))
      (first | (go_at_call 62; refine (C1 _ _ (by first | exact .inl rfl | exact .inr rfl)).mono ?_; rintro e wn ⟨rfl, hbc⟩; have hz : w.heap.size + 1 + 1 + 1 < wn.heap.size := (by (have hq := hbc.size; (try simp at hq); omega)); have hsz := hbc.size; (try simp at hsz); (try (have Z7 := Arr.below ‹Arr _ _ 4 (fun _ => Value.int IntKind.u64 0)› hbc (by go_size))); (try (have Z7 := Arr.below (Arr.zald _) hbc (by simp))); (try (have Z7 := Arr.below (Arr.zal _) hbc (by simp))); (try simp only [World.size_alloc, World.size_drew] at Z7); (try (have c7 := Z7.c; have z7 := Z7.z))) | (go_at_call 56; refine (C3 _).mono ?_; rintro e wn ⟨rfl, hbc⟩; have hz : w.heap.size + 1 + 1 + 1 < wn.heap.size := (by (have hq := hbc.size; (try simp at hq); omega)); have hsz := hbc.size; (try simp at hsz); (try (have Z7 := Arr.below ‹Arr _ _ 4 (fun _ => Value.int IntKind.u64 0)› hbc (by go_size))); (try (have Z7 := Arr.below (Arr.zald _) hbc (by simp))); (try (have Z7 := Arr.below (Arr.zal _) hbc (by simp))); (try simp only [World.size_alloc, World.size_drew] at Z7); (try (have c7 := Z7.c; have z7 := Z7.z))))
    all_goals (go_split_ands; try go_wp2_with fail)
    all_goals
      go_meet
      case rel =>
        refine ⟨_, rfl, rfl, by go_size, by go_size, ?_, by with_reducible assumption, by with_reducible assumption, by with_reducible assumption⟩
        first
          | (apply Arr.mk4 <;> (simp [go_sem]; done))
          | exact set4 ‹Arr wn _ 4 (fun _ => Value.int IntKind.u64 0)› _ _ _ _ _ rfl rfl rfl rfl
          | exact set4 Z7 _ _ _ _ _ rfl rfl rfl rfl
  case rest =>
    clear C1 C3
    obtain ⟨b, rfl, rfl, hb0, hb1, Ab, Mr, A6, hB⟩ := hcut
    have cb := Ab.c
    rcases H with ⟨rfl, CC, rfl⟩ | ⟨rfl | ⟨rfl, x, hx, CC⟩, d, CS⟩
    · go_wp2_with fail
      refine (CC _).mono ?_
      rintro e w1 ⟨rfl, hbc⟩
      have Ab1 := Ab.below hbc hb1
      have A61 := A6.below hbc (by omega)
      have hB1 := Bel.call hB hbc
      have cb := Ab1.c
      have c6 := A61.c
      have z6 := A61.z
      clear hbc CC Ab A6 Mr hB
      go_wp2_with fail
      refine bodyPost_ret (v := nv R) (by simp [results, Try.results29, go_sem, c6]) rfl ⟨rfl, ?_⟩
      go_grown
    · go_wp2_with fail
      refine (CS _).mono ?_
      rintro e w1 ⟨rfl, hbc⟩
      have Ab1 := Ab.below hbc hb1
      have A61 := A6.below hbc (by omega)
      have hB1 := Bel.call hB hbc
      have zb := Ab1.z
      have cb := Ab1.c
      have c6 := A61.c
      have z6 := A61.z
      clear hbc CS Ab A6 Mr hB
      go_wp2_with fail
      refine bodyPost_ret (v := nv R) (by simp [results, Try.results29, go_sem, c6]) rfl ⟨rfl, ?_⟩
      go_grown
    · go_wp2_with fail
      refine (CC _).mono ?_
      rintro e w1 ⟨rfl, hbc⟩
      have Ab1 := Ab.below hbc hb1
      have A61 := A6.below hbc (by omega)
      have Mr1 := R4.to Mr hbc (by omega)
      have hB1 := Bel.call hB hbc
      have hb2 : b < w1.heap.size := Nat.lt_of_lt_of_le hb1 hbc.size
      have cb := Ab1.c
      clear hbc CC Ab A6 Mr hB
      go_wp2_with fail
      refine (CS _).mono ?_
      rintro e w2 ⟨rfl, hbc⟩
      have Ab2 := Ab1.below hbc hb2
      have A62 := A61.below hbc (by omega)
      have hB2 := Bel.call hB1 hbc
      have zb := Ab2.z
      have cb := Ab2.c
      have c6 := A62.c
      have z6 := A62.z
      clear hbc CS Ab1 A61 Mr1 hB1
      go_wp2_with fail
      refine bodyPost_ret (v := nv R) (by simp [results, Try.results29, go_sem, c6]) rfl ⟨rfl, ?_⟩
      go_grown
end Go.Proofs.Ytpigofooblmdhaa
