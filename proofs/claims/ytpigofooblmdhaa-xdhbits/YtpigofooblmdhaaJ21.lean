/- What mod.Sub does of what its callees answer. -/
import Derived.Test.YtpigofooblmdhaaJ16
set_option linter.all false
namespace Go.Proofs.Ytpigofooblmdhaa
open Go.RowKit
set_option maxHeartbeats 2000000 in
theorem msub_core (A B M S c R : Int) (f : Int → Int) (w : World)
    (C1 : ∀ N W, N = A ∨ N = B → Calls Try.prog 62 #[nv N, nv M] W fun e w' => e = .returned (nv (f N)) ∧ Below W.heap.size W w')
    (C3 : ∀ W, Calls Try.prog 64 #[nv (f A), nv (f B)] W fun e w' => e = .returned (.tuple #[nv S, .int .u64 c]) ∧ Below W.heap.size W w')
    (H : (c = 0 ∧ R = S) ∨ (c = 1 ∧ ∃ d : Value, ∀ W, Calls Try.prog 56 #[nv S, nv M] W fun e w' => e = .returned (.tuple #[nv R, d]) ∧ Below W.heap.size W w')) :
    Calls Try.prog 31 #[nv A, nv B, nv M] w fun e w' => e = .returned (nv R) ∧ Below w.heap.size w w' := by
  go_enter Try.func31, Try.ntmps31
  go_upto_region 1 with fail
  go_cut [7, 8] from 9 to 18 (fun s7 s8 wx => ∃ b : Nat, s7 = .pointer (some ⟨b, 0, none⟩) ∧ s8 = .int .u64 c ∧ w.heap.size + 1 + 1 + 1 < b ∧ b < wx.heap.size ∧ Arr wx b 4 (fun j => .int .u64 (lim S j)) ∧
     (R4 wx (w.heap.size + 1 + 1) (fun j => .int .u64 (lim M j)) ∧ Arr wx (w.heap.size + 1 + 1 + 1) 4 (fun _ => .int .u64 0) ∧ Below w.heap.size w wx))
  case first =>
    go_region_held3 (fun w' => R4 w' w.heap.size (fun j => .int .u64 (lim A j)) ∧ R4 w' (w.heap.size + 1) (fun j => .int .u64 (lim B j)) ∧ R4 w' (w.heap.size + 1 + 1) (fun j => .int .u64 (lim M j)) ∧ Arr w' (w.heap.size + 1 + 1 + 1) 4 (fun _ => .int .u64 0) ∧ Below w.heap.size w w')
      ((go_split_ands; refine ⟨?_, ?_, ?_, ?_, ?_⟩ <;> (first | (with_reducible assumption) | (apply R4.of <;> (simp [go_sem]; done)) | (apply Arr.mk4 <;> (simp [go_sem]; done)) | ((with_reducible refine Bel.call ?_ hbc); (with_reducible assumption)) | (go_grown; done) | ((with_reducible refine R4.to ?_ hbc ?_) <;> (first | (with_reducible assumption) | (go_size; done) | fail)) | ((with_reducible refine Arr.below ?_ hbc ?_) <;> (first | (with_reducible assumption) | (go_size; done) | fail)) | ((with_reducible refine R4.ala (by with_reducible assumption) ?_ _); go_size; done) | ((with_reducible refine Arr.ala (by with_reducible assumption) ?_ _); go_size; done) | ((with_reducible refine Bel.ala (by with_reducible assumption) ?_ _); go_size; done) | (repeat (first | (with_reducible assumption) | (with_reducible refine R4.st ?_ (by go_size) _) | (with_reducible refine R4.al ?_ (by go_size) _) | (with_reducible refine Arr.other ?_ (by go_size) _) | (with_reducible refine Arr.alloc ?_ (by go_size) _) | (with_reducible refine Bel.st ?_ (by go_size) _) | (with_reducible refine Bel.al ?_ _))) | fail)))
      (first | (go_at_call 62; refine (C1 _ _ (by first | exact .inl rfl | exact .inr rfl)).mono ?_; rintro e wn ⟨rfl, hbc⟩; have hz : w.heap.size + 1 + 1 + 1 < wn.heap.size := (by (have hq := hbc.size; (try simp at hq); omega)); have hsz := hbc.size; (try simp at hsz); (try (have Z7 := Arr.below ‹Arr _ _ 4 (fun _ => Value.int IntKind.u64 0)› hbc (by go_size))); (try (have Z7 := Arr.below (Arr.zald _) hbc (by simp))); (try (have Z7 := Arr.below (Arr.zal _) hbc (by simp))); (try simp only [World.size_alloc, World.size_drew] at Z7); (try (have c7 := Z7.c; have z7 := Z7.z))) | (go_at_call 64; refine (C3 _).mono ?_; rintro e wn ⟨rfl, hbc⟩; have hz : w.heap.size + 1 + 1 + 1 < wn.heap.size := (by (have hq := hbc.size; (try simp at hq); omega)); have hsz := hbc.size; (try simp at hsz); (try (have Z7 := Arr.below ‹Arr _ _ 4 (fun _ => Value.int IntKind.u64 0)› hbc (by go_size))); (try (have Z7 := Arr.below (Arr.zald _) hbc (by simp))); (try (have Z7 := Arr.below (Arr.zal _) hbc (by simp))); (try simp only [World.size_alloc, World.size_drew] at Z7); (try (have c7 := Z7.c; have z7 := Z7.z))))
    all_goals (go_split_ands; try go_wp2_with fail)
    all_goals
      go_meet
      case rel =>
        refine ⟨_, rfl, rfl, by go_size, by go_size, ?_, by with_reducible assumption, by with_reducible assumption, by with_reducible assumption⟩
        first
          | (apply Arr.mk4 <;> (simp [go_sem]; done))
          | exact set4 ‹Arr wn _ 4 (fun _ => Value.int IntKind.u64 0)› _ _ _ _ _ rfl rfl rfl rfl
          | exact set4 Z7 _ _ _ _ _ rfl rfl rfl rfl
  case rest =>
    clear C1 C3
    obtain ⟨b, rfl, rfl, hb0, hb1, Ab, Mr, A6, hB⟩ := hcut
    have cb := Ab.c
    rcases H with ⟨rfl, rfl⟩ | ⟨rfl, d, CS⟩
    · have c6 := A6.c
      have z6 := A6.z
      clear Mr Ab A6
      go_wp2_with fail
      refine bodyPost_ret (v := nv R) (by simp [results, Try.results31, go_sem, c6]) rfl ⟨rfl, ?_⟩
      go_grown
    · go_wp2_with fail
      refine (CS _).mono ?_
      rintro e w1 ⟨rfl, hbc⟩
      have Ab1 := Ab.below hbc hb1
      have A61 := A6.below hbc (by omega)
      have hB1 := Bel.call hB hbc
      have zb := Ab1.z
      have cb := Ab1.c
      have c6 := A61.c
      have z6 := A61.z
      clear hbc CS Ab A6 Mr hB
      go_wp2_with fail
      refine bodyPost_ret (v := nv R) (by simp [results, Try.results31, go_sem, c6]) rfl ⟨rfl, ?_⟩
      go_grown
end Go.Proofs.Ytpigofooblmdhaa
