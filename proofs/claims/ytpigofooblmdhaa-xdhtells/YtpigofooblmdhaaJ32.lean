/- xdh.bits hands out a scalar's bits, the highest first; what xdh.ladder answers. -/
import Derived.Test.YtpigofooblmdhaaJ31
set_option linter.all false
set_option maxRecDepth 100000
namespace Go.Proofs.Ytpigofooblmdhaa
open Go.RowKit Go.Shelf Go.Sort
attribute [local go_sem] Oper.semAt_some
set_option maxHeartbeats 2000000 in
theorem xbits1_in (E : Int) (n l Bn : Nat) (hn : 1 ≤ n) (J Jx : List Bool → World → Prop) {B : Nat} (hJ : AbidesFrom B J)
    (CB : ∀ (k : Nat) W, k < 256 → Calls Try.prog 102 #[nv E, .int .i64 k] W fun e w' => e = .returned (bv (bitB E k)) ∧ Below W.heap.size W w')
    (hY : ∀ pre x W, J pre W → pre.length < 257 → YieldAt Fence.wide (n - 1) Try.prog l #[bv x] W fun e W' =>
      (e = .returned (.bool true) ∧ J (pre ++ [x]) W' ∧ KB Bn W W') ∨ (e = .returned (.bool false) ∧ Jx (pre ++ [x]) W'))
    (W : World) (hA : Arr W Bn 4 (fun j => .int .u64 (lim E j))) (h0 : J [] W) :
    CallsIn Fence.wide n Try.prog 112 #[.func (.yield l) #[] #[], .pointer (some ⟨Bn, 0, none⟩)] W fun e W' => (∃ v, e = .returned v) ∧
      ((∃ ys, ys = upto E 255 255 ∧ J ys W') ∨ (∃ pre, pre <+: upto E 255 255 ∧ Jx pre W')) := by
  refine callsIn_of_wp Try.func112 rfl trivial ?_ rfl
  simp only [Try.ntmps112, List.size_toArray, List.length_cons, List.length_nil, Nat.reduceAdd, Nat.reduceSub, Array.replicate_succ, Array.replicate_zero, List.push_toArray, List.append_toArray, List.nil_append, List.cons_append]
  gi_wp2
  gi_loopw [4] (fun i wr => ∃ k : Nat, k ≤ 255 ∧ i = .int .i64 (k : Int) ∧ J (upto E 255 k) wr ∧ Arr wr Bn 4 (fun j => .int .u64 (lim E j))) (fun i _ => 255 - (intOf i).toNat)
  case atStart => exact ⟨0, by omega, rfl, h0, hA⟩
  case round =>
    clear h0 hA
    obtain ⟨k, hk, rfl, hJs, hA⟩ := hrel
    have ca := hA.c
    by_cases hlt : k < 255
    · obtain ⟨m, hm⟩ : ∃ m : Nat, (254 : Int) - (k : Int) = (m : Int) := ⟨254 - k, by omega⟩
      have em : m = 255 - 1 - k := by omega
      have k0 : (0 : Int) ≤ (k : Int) := by omega
      have k1 : (k : Int) < 255 := by omega
      have cb := fun W => CB m W (by omega)
      rw [← hm] at cb
      have hk3 : (upto E 255 k).length < 257 := by rw [upto_len]; omega
      have hpre := upto_pre E 255 (k + 1) hlt
      rw [upto_succ, ← em] at hpre
      have hus := upto_succ E 255 k
      rw [← em] at hus
      have HU : Hid (upto E 255 (k + 1) = upto E 255 k ++ [bitB E m]) := hus
      clear em hm hus
      gi_wp2_with (refine ⟨trivial, ?_⟩; gi_at_call 102; refine (callsIn_wide.2 (cb _)).mono ?_; rintro e w2 ⟨rfl, hb2⟩; obtain ⟨fn, tmps, assign, body, hy, hR⟩ := hY (upto E 255 k) (bitB E m) w2 (hJ _ _ _ none hJs (gby hb2) (fun r e => by cases e)) hk3)
      refine hR.mono ?_
      rintro e W3 (⟨rfl, hJ3, hb3⟩ | ⟨rfl, hJx3⟩)
      · have hA3 := hb3 _ (hA.below hb2 hA.lt)
        gi_wp2
        go_roundw
        case rel => exact ⟨k + 1, by omega, by go_num, by rw [HU.out]; exact hJ3, hA3⟩
        case measure => first | (simp [intOf]; done) | (simp [intOf]; omega)
      · gi_wp2
        refine bodyPost_ret (results_none rfl _ _ _) rfl ?_
        exact ⟨⟨_, rfl⟩, .inr ⟨_, hpre, hJx3⟩⟩
    · have e : k = 255 := by omega
      subst e
      gi_wp2
      go_end0
      exact ⟨⟨_, rfl⟩, .inl ⟨_, rfl, hJs⟩⟩
theorem xbits_seq (E : Int) (n Bn : Nat) (hn : 1 ≤ n) (w0 : World)
    (CB : ∀ (k : Nat) W, k < 256 → Calls Try.prog 102 #[nv E, .int .i64 k] W fun e w' => e = .returned (bv (bitB E k)) ∧ Below W.heap.size W w')
    (hA : Arr w0 Bn 4 (fun j => .int .u64 (lim E j))) :
    SeqStopsK Fence.wide n Try.prog 112 #[.pointer (some ⟨Bn, 0, none⟩)] (fun b : Bool => #[bv b]) (KB Bn) (fun ys => ys = upto E 255 255) (fun pre => pre <+: upto E 255 255) 257 w0 :=
  fun l J Jx W hW hJ _ hY h0 =>
    xbits1_in E n l Bn hn J Jx hJ CB hY W (hA.below hW hA.lt) h0
set_option maxHeartbeats 1000000 in
theorem xbits_any (E : Int) (w : World) : Calls Try.prog 103 #[nv E] w fun e w' => e = .returned (.func (.func 112) #[] #[.pointer (some ⟨w.heap.size, 0, none⟩)]) ∧ w' = w.alloc (.cells #[.int .u64 (lim E 0), .int .u64 (lim E 1), .int .u64 (lim E 2), .int .u64 (lim E 3)] 24) := by
  go_enter Try.func103, Try.ntmps103
  go_wp2
  go_ret
  exact ⟨rfl, rfl⟩
abbrev st16 (w : World) (b : Nat) (A C B D : Int) : World := ((((((((((((((((((((((((((((((((w).setCell ⟨b, 0, none⟩ (.int .u64 (lim A 0)))).setCell ⟨b, 1, none⟩ (.int .u64 (lim A 1)))).setCell ⟨b, 2, none⟩ (.int .u64 (lim A 2)))).setCell ⟨b, 3, none⟩ (.int .u64 (lim A 3)))).setCell ⟨b, 4, none⟩ (.int .u64 (lim C 0)))).setCell ⟨b, 5, none⟩ (.int .u64 (lim C 1)))).setCell ⟨b, 6, none⟩ (.int .u64 (lim C 2)))).setCell ⟨b, 7, none⟩ (.int .u64 (lim C 3)))).setCell ⟨b, 8, none⟩ (.int .u64 (lim B 0)))).setCell ⟨b, 9, none⟩ (.int .u64 (lim B 1)))).setCell ⟨b, 10, none⟩ (.int .u64 (lim B 2)))).setCell ⟨b, 11, none⟩ (.int .u64 (lim B 3)))).setCell ⟨b, 12, none⟩ (.int .u64 (lim D 0)))).setCell ⟨b, 13, none⟩ (.int .u64 (lim D 1)))).setCell ⟨b, 14, none⟩ (.int .u64 (lim D 2)))).setCell ⟨b, 15, none⟩ (.int .u64 (lim D 3)))
theorem Arr.st16 {w : World} {b : Nat} {f : Nat → Value} (h : Arr w b 16 f) (A C B D : Int) : Arr (st16 w b A C B D) b 16 (fun j => .int .u64 (lx [A, C, B, D] j)) := by
  have h := h.set 0 (by omega) (.int .u64 (lim A 0))
  have h := h.set 1 (by omega) (.int .u64 (lim A 1))
  have h := h.set 2 (by omega) (.int .u64 (lim A 2))
  have h := h.set 3 (by omega) (.int .u64 (lim A 3))
  have h := h.set 4 (by omega) (.int .u64 (lim C 0))
  have h := h.set 5 (by omega) (.int .u64 (lim C 1))
  have h := h.set 6 (by omega) (.int .u64 (lim C 2))
  have h := h.set 7 (by omega) (.int .u64 (lim C 3))
  have h := h.set 8 (by omega) (.int .u64 (lim B 0))
  have h := h.set 9 (by omega) (.int .u64 (lim B 1))
  have h := h.set 10 (by omega) (.int .u64 (lim B 2))
  have h := h.set 11 (by omega) (.int .u64 (lim B 3))
  have h := h.set 12 (by omega) (.int .u64 (lim D 0))
  have h := h.set 13 (by omega) (.int .u64 (lim D 1))
  have h := h.set 14 (by omega) (.int .u64 (lim D 2))
  have h := h.set 15 (by omega) (.int .u64 (lim D 3))
  refine h.congr ?_
  intro j hj
  have h : j = 0 ∨ j = 1 ∨ j = 2 ∨ j = 3 ∨ j = 4 ∨ j = 5 ∨ j = 6 ∨ j = 7 ∨ j = 8 ∨ j = 9 ∨ j = 10 ∨ j = 11 ∨ j = 12 ∨ j = 13 ∨ j = 14 ∨ j = 15 := by omega
  rcases h with h | h | h | h | h | h | h | h | h | h | h | h | h | h | h | h <;> subst h <;> simp [lx]
theorem Arr.st16o {w : World} {b b' n : Nat} {f : Nat → Value} (h : Arr w b n f) (hne : b' ≠ b) (A C B D : Int) : Arr (Go.Proofs.Ytpigofooblmdhaa.st16 w b' A C B D) b n f := ((((((((((((((((h.other hne _).other hne _).other hne _).other hne _).other hne _).other hne _).other hne _).other hne _).other hne _).other hne _).other hne _).other hne _).other hne _).other hne _).other hne _).other hne _)
theorem Bel.st16 {w W : World} (h : Below w.heap.size w W) {b : Nat} (hle : w.heap.size ≤ b) (A C B D : Int) : Below w.heap.size w (Go.Proofs.Ytpigofooblmdhaa.st16 W b A C B D) := (Bel.st (Bel.st (Bel.st (Bel.st (Bel.st (Bel.st (Bel.st (Bel.st (Bel.st (Bel.st (Bel.st (Bel.st (Bel.st (Bel.st (Bel.st (Bel.st h hle _) hle _) hle _) hle _) hle _) hle _) hle _) hle _) hle _) hle _) hle _) hle _) hle _) hle _) hle _) hle _)
theorem ko_st16 (W : World) (b : Nat) (A C B D : Int) : KeepsOthers W (st16 W b A C B D) := ((((((((((((((((KeepsOthers.setCell _ _ _).trans (KeepsOthers.setCell _ _ _)).trans (KeepsOthers.setCell _ _ _)).trans (KeepsOthers.setCell _ _ _)).trans (KeepsOthers.setCell _ _ _)).trans (KeepsOthers.setCell _ _ _)).trans (KeepsOthers.setCell _ _ _)).trans (KeepsOthers.setCell _ _ _)).trans (KeepsOthers.setCell _ _ _)).trans (KeepsOthers.setCell _ _ _)).trans (KeepsOthers.setCell _ _ _)).trans (KeepsOthers.setCell _ _ _)).trans (KeepsOthers.setCell _ _ _)).trans (KeepsOthers.setCell _ _ _)).trans (KeepsOthers.setCell _ _ _)).trans (KeepsOthers.setCell _ _ _))
theorem kb_st16 {b b' : Nat} (hne : b' ≠ b) (W : World) (A C B D : Int) : KB b W (st16 W b' A C B D) := fun f h => h.st16o hne A C B D
def lstep (U : Int) (s : Int × Int × Int × Int) (b : Bool) : Int × Int × Int × Int :=
  if b then (sb s.2.2.1 s.2.2.2 s.1 s.2.1, sd s.2.2.1 s.2.2.2 s.1 s.2.1 U, sa s.2.2.1 s.2.2.2, sc' s.2.2.1 s.2.2.2)
  else (sa s.1 s.2.1, sc' s.1 s.2.1, sb s.1 s.2.1 s.2.2.1 s.2.2.2, sd s.1 s.2.1 s.2.2.1 s.2.2.2 U)
def lsts (U : Int) (pre : List Bool) : Int × Int × Int × Int := pre.foldl (lstep U) (1, 0, U, 1)
theorem lsts_snoc (U : Int) (pre : List Bool) (b : Bool) : lsts U (pre ++ [b]) = lstep U (lsts U pre) b := by simp [lsts]
def Inn4 (s : Int × Int × Int × Int) : Prop := Inn s.1 ∧ Inn s.2.1 ∧ Inn s.2.2.1 ∧ Inn s.2.2.2
theorem inn4_step (U : Int) (s : Int × Int × Int × Int) (b : Bool) : Inn4 (lstep U s b) := by
  unfold lstep; split
  · exact ⟨inn_fm _ _, inn_fm _ _, inn_fm _ _, inn_fm _ _⟩
  · exact ⟨inn_fm _ _, inn_fm _ _, inn_fm _ _, inn_fm _ _⟩
theorem inn4_sts (U : Int) (iU : Inn U) (pre : List Bool) : Inn4 (lsts U pre) := by
  have i1 : Inn 1 := ⟨by decide, by decide⟩
  have i0 : Inn 0 := ⟨by decide, by decide⟩
  unfold lsts
  suffices h : ∀ (l : List Bool) s, Inn4 s → Inn4 (l.foldl (lstep U) s) from h pre _ ⟨i1, i0, iU, i1⟩
  intro l
  induction l with
  | nil => intro s h; exact h
  | cons b l ih => intro s _; exact ih _ (inn4_step U s b)
attribute [local go_sem] bv_t bv_f
set_option maxHeartbeats 8000000 in
theorem ladder_core (K U R : Int) (w : World) (iU : Inn U)
    (CB : ∀ (k : Nat) W, k < 256 → Calls Try.prog 102 #[nv K, .int .i64 k] W fun e w' => e = .returned (bv (bitB K k)) ∧ Below W.heap.size W w')
    (CV : ∀ W, Calls Try.prog 106 #[nv2 (lsts U (upto K 255 255)).1 (lsts U (upto K 255 255)).2.1] W fun e w' => e = .returned (nv R) ∧ Below W.heap.size W w') :
    Calls Try.prog 74 #[nv K, nv U] w fun e w' => e = .returned (nv R) ∧ Below w.heap.size w w' := by
  refine (callsIn_wide (n := 8)).1 ?_
  refine callsIn_of_wp_marks Try.func74 rfl trivial ?_ rfl
  simp only [Try.ntmps74, List.size_toArray, List.length_cons, List.length_nil, Nat.reduceAdd, Nat.reduceSub, Array.replicate_succ, Array.replicate_zero, List.push_toArray, List.append_toArray, List.nil_append, List.cons_append]
  gi_wp2_with (refine ⟨trivial, ?_⟩; gi_at_call 103; refine (callsIn_wide.2 (xbits_any K _)).mono ?_; rintro e w2 ⟨rfl, rfl⟩)
  have l10 : lim 1 0 = 1 := by decide
  have l11 : lim 1 1 = 0 := by decide
  have l12 : lim 1 2 = 0 := by decide
  have l13 : lim 1 3 = 0 := by decide
  have l00 : lim 0 0 = 0 := by decide
  have l01 : lim 0 1 = 0 := by decide
  have l02 : lim 0 2 = 0 := by decide
  have l03 : lim 0 3 = 0 := by decide
  have QU : Arr (((((w.alloc (.cells #[.int .u64 (lim K 0), .int .u64 (lim K 1), .int .u64 (lim K 2), .int .u64 (lim K 3)] 24)).alloc (.cells #[.int .u64 (lim U 0), .int .u64 (lim U 1), .int .u64 (lim U 2), .int .u64 (lim U 3)] 24)).alloc (.cells #[.int .u64 0, .int .u64 0, .int .u64 0, .int .u64 0] 24)).alloc (.cells #[.int .u64 1, .int .u64 0, .int .u64 0, .int .u64 0, .int .u64 0, .int .u64 0, .int .u64 0, .int .u64 0, .int .u64 (lim U 0), .int .u64 (lim U 1), .int .u64 (lim U 2), .int .u64 (lim U 3), .int .u64 1, .int .u64 0, .int .u64 0, .int .u64 0] 97)).alloc (.cells #[.int .u64 (lim K 0), .int .u64 (lim K 1), .int .u64 (lim K 2), .int .u64 (lim K 3)] 24)) (w.heap.size + 1) 4 (fun j => .int .u64 (lim U j)) := Arr.mk4 (by simp [go_sem]) (by simp [go_sem]) (by simp [go_sem]) (by simp [go_sem]) (by simp [go_sem]) (by simp [go_sem]) (by simp [go_sem]) (by simp [go_sem])
  have QZ : Arr (((((w.alloc (.cells #[.int .u64 (lim K 0), .int .u64 (lim K 1), .int .u64 (lim K 2), .int .u64 (lim K 3)] 24)).alloc (.cells #[.int .u64 (lim U 0), .int .u64 (lim U 1), .int .u64 (lim U 2), .int .u64 (lim U 3)] 24)).alloc (.cells #[.int .u64 0, .int .u64 0, .int .u64 0, .int .u64 0] 24)).alloc (.cells #[.int .u64 1, .int .u64 0, .int .u64 0, .int .u64 0, .int .u64 0, .int .u64 0, .int .u64 0, .int .u64 0, .int .u64 (lim U 0), .int .u64 (lim U 1), .int .u64 (lim U 2), .int .u64 (lim U 3), .int .u64 1, .int .u64 0, .int .u64 0, .int .u64 0] 97)).alloc (.cells #[.int .u64 (lim K 0), .int .u64 (lim K 1), .int .u64 (lim K 2), .int .u64 (lim K 3)] 24)) (w.heap.size + 1 + 1) 4 (fun _ => .int .u64 0) := Arr.mk4 (by simp [go_sem]) (by simp [go_sem]) (by simp [go_sem]) (by simp [go_sem]) (by simp [go_sem]) (by simp [go_sem]) (by simp [go_sem]) (by simp [go_sem])
  have QB : Arr (((((w.alloc (.cells #[.int .u64 (lim K 0), .int .u64 (lim K 1), .int .u64 (lim K 2), .int .u64 (lim K 3)] 24)).alloc (.cells #[.int .u64 (lim U 0), .int .u64 (lim U 1), .int .u64 (lim U 2), .int .u64 (lim U 3)] 24)).alloc (.cells #[.int .u64 0, .int .u64 0, .int .u64 0, .int .u64 0] 24)).alloc (.cells #[.int .u64 1, .int .u64 0, .int .u64 0, .int .u64 0, .int .u64 0, .int .u64 0, .int .u64 0, .int .u64 0, .int .u64 (lim U 0), .int .u64 (lim U 1), .int .u64 (lim U 2), .int .u64 (lim U 3), .int .u64 1, .int .u64 0, .int .u64 0, .int .u64 0] 97)).alloc (.cells #[.int .u64 (lim K 0), .int .u64 (lim K 1), .int .u64 (lim K 2), .int .u64 (lim K 3)] 24)) (w.heap.size + 1 + 1 + 1) 16 (fun j => .int .u64 (lx [(lsts U []).1, (lsts U []).2.1, (lsts U []).2.2.1, (lsts U []).2.2.2] j)) := Arr.mk16 (by simp [go_sem, lx, lsts, l10, l11, l12, l13, l00, l01, l02, l03]) (by simp [go_sem, lx, lsts, l10, l11, l12, l13, l00, l01, l02, l03]) (by simp [go_sem, lx, lsts, l10, l11, l12, l13, l00, l01, l02, l03]) (by simp [go_sem, lx, lsts, l10, l11, l12, l13, l00, l01, l02, l03]) (by simp [go_sem, lx, lsts, l10, l11, l12, l13, l00, l01, l02, l03]) (by simp [go_sem, lx, lsts, l10, l11, l12, l13, l00, l01, l02, l03]) (by simp [go_sem, lx, lsts, l10, l11, l12, l13, l00, l01, l02, l03]) (by simp [go_sem, lx, lsts, l10, l11, l12, l13, l00, l01, l02, l03]) (by simp [go_sem, lx, lsts, l10, l11, l12, l13, l00, l01, l02, l03]) (by simp [go_sem, lx, lsts, l10, l11, l12, l13, l00, l01, l02, l03]) (by simp [go_sem, lx, lsts, l10, l11, l12, l13, l00, l01, l02, l03]) (by simp [go_sem, lx, lsts, l10, l11, l12, l13, l00, l01, l02, l03]) (by simp [go_sem, lx, lsts, l10, l11, l12, l13, l00, l01, l02, l03]) (by simp [go_sem, lx, lsts, l10, l11, l12, l13, l00, l01, l02, l03]) (by simp [go_sem, lx, lsts, l10, l11, l12, l13, l00, l01, l02, l03]) (by simp [go_sem, lx, lsts, l10, l11, l12, l13, l00, l01, l02, l03]) (by simp [go_sem])
  have QK : Arr (((((w.alloc (.cells #[.int .u64 (lim K 0), .int .u64 (lim K 1), .int .u64 (lim K 2), .int .u64 (lim K 3)] 24)).alloc (.cells #[.int .u64 (lim U 0), .int .u64 (lim U 1), .int .u64 (lim U 2), .int .u64 (lim U 3)] 24)).alloc (.cells #[.int .u64 0, .int .u64 0, .int .u64 0, .int .u64 0] 24)).alloc (.cells #[.int .u64 1, .int .u64 0, .int .u64 0, .int .u64 0, .int .u64 0, .int .u64 0, .int .u64 0, .int .u64 0, .int .u64 (lim U 0), .int .u64 (lim U 1), .int .u64 (lim U 2), .int .u64 (lim U 3), .int .u64 1, .int .u64 0, .int .u64 0, .int .u64 0] 97)).alloc (.cells #[.int .u64 (lim K 0), .int .u64 (lim K 1), .int .u64 (lim K 2), .int .u64 (lim K 3)] 24)) (w.heap.size + 1 + 1 + 1 + 1) 4 (fun j => .int .u64 (lim K j)) := Arr.mk4 (by simp [go_sem]) (by simp [go_sem]) (by simp [go_sem]) (by simp [go_sem]) (by simp [go_sem]) (by simp [go_sem]) (by simp [go_sem]) (by simp [go_sem])
  have hB2 : Below w.heap.size w (((((w.alloc (.cells #[.int .u64 (lim K 0), .int .u64 (lim K 1), .int .u64 (lim K 2), .int .u64 (lim K 3)] 24)).alloc (.cells #[.int .u64 (lim U 0), .int .u64 (lim U 1), .int .u64 (lim U 2), .int .u64 (lim U 3)] 24)).alloc (.cells #[.int .u64 0, .int .u64 0, .int .u64 0, .int .u64 0] 24)).alloc (.cells #[.int .u64 1, .int .u64 0, .int .u64 0, .int .u64 0, .int .u64 0, .int .u64 0, .int .u64 0, .int .u64 0, .int .u64 (lim U 0), .int .u64 (lim U 1), .int .u64 (lim U 2), .int .u64 (lim U 3), .int .u64 1, .int .u64 0, .int .u64 0, .int .u64 0] 97)).alloc (.cells #[.int .u64 (lim K 0), .int .u64 (lim K 1), .int .u64 (lim K 2), .int .u64 (lim K 3)] 24)) := by go_grown
  clear l10 l11 l12 l13 l00 l01 l02 l03
  refine wpIn_rangeFunc_ownF rfl (by omega) (gf := 112) (lb := #[.pointer (some ⟨w.heap.size + 1 + 1 + 1 + 1, 0, none⟩)]) rfl trivial (enters_of Try.func112 (by kernel_rfl) rfl)
    (xbits_seq K _ (w.heap.size + 1 + 1 + 1 + 1) (by omega) _ CB QK) KB.t (fun W l o o' _ h1 h2 _ => KB.b W l o o' h1 h2) (Below.refl _ _) (fun _ => rfl)
    (fun pre W => (Arr W (w.heap.size + 1) 4 (fun j => .int .u64 (lim U j)) ∧ Arr W (w.heap.size + 1 + 1 + 1) 16 (fun j => .int .u64 (lx [(lsts U pre).1, (lsts U pre).2.1, (lsts U pre).2.2.1, (lsts U pre).2.2.2] j)) ∧ Arr W (w.heap.size + 1 + 1) 4 (fun _ => .int .u64 0)) ∧ Below w.heap.size w W)
    (fun _ _ _ => False)
    (OwnFrom.and (Own.from (fun s A B row hs hg hr => ⟨arr_kept hs.1 hg hr, arr_kept hs.2.1 hg hr, arr_kept hs.2.2 hg hr⟩) _) (ownFrom_below (Nat.le_refl _) (by simp; omega)))
    (fun _ _ _ _ _ hs _ _ => hs)
    ⟨⟨QU, QB, QZ⟩, hB2⟩
    (fun x => { tmps := #[nv K, nv U, .pointer (some ⟨w.heap.size, 0, none⟩), .pointer (some ⟨w.heap.size + 1, 0, none⟩), .pointer (some ⟨w.heap.size + 1 + 1, 0, none⟩), .pointer (some ⟨w.heap.size + 1 + 1 + 1, 0, none⟩), bv x, .agg #[.int .u64 1, .int .u64 0, .int .u64 0, .int .u64 0], .agg #[.int .u64 0, .int .u64 0, .int .u64 0, .int .u64 0], .agg #[.int .u64 1, .int .u64 0, .int .u64 0, .int .u64 0, .int .u64 0, .int .u64 0, .int .u64 0, .int .u64 0], nv U, .agg #[.int .u64 1, .int .u64 0, .int .u64 0, .int .u64 0], .agg #[.int .u64 (lim U 0), .int .u64 (lim U 1), .int .u64 (lim U 2), .int .u64 (lim U 3), .int .u64 1, .int .u64 0, .int .u64 0, .int .u64 0], .agg #[.int .u64 1, .int .u64 0, .int .u64 0, .int .u64 0, .int .u64 0, .int .u64 0, .int .u64 0, .int .u64 0, .int .u64 (lim U 0), .int .u64 (lim U 1), .int .u64 (lim U 2), .int .u64 (lim U 3), .int .u64 1, .int .u64 0, .int .u64 0, .int .u64 0], nv K, .func (.func 112) #[] #[.pointer (some ⟨w.heap.size + 1 + 1 + 1 + 1, 0, none⟩)], bv x, undef, undef, undef, undef, undef, undef, undef, undef, undef, undef], defers := [] }) ?assign ?body ?done ?stop
  case assign =>
    intro l x W K hK
    gi_wp2
    exact hK
  case body =>
    clear QU QZ QB QK hB2 CB CV
    rintro l pre x W ⟨⟨IU, IB, IZ⟩, hB⟩ _
    have i4 := inn4_sts U iU pre
    obtain ⟨A, C, B, D, hs⟩ : ∃ A C B D, lsts U pre = (A, C, B, D) := ⟨_, _, _, _, rfl⟩
    rw [hs] at IB i4
    obtain ⟨iA, iC, iB, iD⟩ := i4
    replace iA : Inn A := iA
    replace iC : Inn C := iC
    replace iB : Inn B := iB
    replace iD : Inn D := iD
    have hd : 1 ≤ 8 - 1 - 1 := by omega
    have ru0 := fun ds os => cell_regrown (IU.c 0 (by omega)) ds os
    have ru1 := fun ds os => cell_regrown (IU.c 1 (by omega)) ds os
    have ru2 := fun ds os => cell_regrown (IU.c 2 (by omega)) ds os
    have ru3 := fun ds os => cell_regrown (IU.c 3 (by omega)) ds os
    have rb0 := fun ds os => cell_regrown (IB.cv 0 (by omega) (.int .u64 (lim A 0)) rfl) ds os
    have rb1 := fun ds os => cell_regrown (IB.cv 1 (by omega) (.int .u64 (lim A 1)) rfl) ds os
    have rb2 := fun ds os => cell_regrown (IB.cv 2 (by omega) (.int .u64 (lim A 2)) rfl) ds os
    have rb3 := fun ds os => cell_regrown (IB.cv 3 (by omega) (.int .u64 (lim A 3)) rfl) ds os
    have rb4 := fun ds os => cell_regrown (IB.cv 4 (by omega) (.int .u64 (lim C 0)) rfl) ds os
    have rb5 := fun ds os => cell_regrown (IB.cv 5 (by omega) (.int .u64 (lim C 1)) rfl) ds os
    have rb6 := fun ds os => cell_regrown (IB.cv 6 (by omega) (.int .u64 (lim C 2)) rfl) ds os
    have rb7 := fun ds os => cell_regrown (IB.cv 7 (by omega) (.int .u64 (lim C 3)) rfl) ds os
    have rb8 := fun ds os => cell_regrown (IB.cv 8 (by omega) (.int .u64 (lim B 0)) rfl) ds os
    have rb9 := fun ds os => cell_regrown (IB.cv 9 (by omega) (.int .u64 (lim B 1)) rfl) ds os
    have rb10 := fun ds os => cell_regrown (IB.cv 10 (by omega) (.int .u64 (lim B 2)) rfl) ds os
    have rb11 := fun ds os => cell_regrown (IB.cv 11 (by omega) (.int .u64 (lim B 3)) rfl) ds os
    have rb12 := fun ds os => cell_regrown (IB.cv 12 (by omega) (.int .u64 (lim D 0)) rfl) ds os
    have rb13 := fun ds os => cell_regrown (IB.cv 13 (by omega) (.int .u64 (lim D 1)) rfl) ds os
    have rb14 := fun ds os => cell_regrown (IB.cv 14 (by omega) (.int .u64 (lim D 2)) rfl) ds os
    have rb15 := fun ds os => cell_regrown (IB.cv 15 (by omega) (.int .u64 (lim D 3)) rfl) ds os
    cases x
    · have HN : Hid (lsts U (pre ++ [false]) = ((sa A C), (sc' A C), (sb A C B D), (sd A C B D U))) := by
        show lsts U (pre ++ [false]) = _
        rw [lsts_snoc, hs]; rfl
      gi_wp2
      refine wpIn_region_below_tail 7 (by kernel_rfl) (by kernel_rfl) ?_
      simp only [List.take_succ_cons, List.take_zero, List.drop_succ_cons, List.drop_zero]
      repeat (go_big_quiet_step (first | (go_at_call 104; with_reducible exact Calls.regrown_of (exch0 _ _ _ _ _)) | (go_at_call 105; exact Calls.regrown_of (step_any A C B D U iA iC iB iD iU _))))
      refine wpQuiet_nil ?_
      intro w3 hw'
      obtain ⟨⟨dq, osq⟩, hw''⟩ := hw'
      have hb := below_of hw''
      clear hw'' ru0 ru1 ru2 ru3 rb0 rb1 rb2 rb3 rb4 rb5 rb6 rb7 rb8 rb9 rb10 rb11 rb12 rb13 rb14 rb15
      have JU := IU.below hb IU.lt
      have JB := IB.below hb IB.lt
      have JZ := IZ.below hb IZ.lt
      have cb := JB.c
      have zb := JB.z
      gi_wp2
      refine ⟨(ko_below hb).trans (ko_st16 _ _ _ _ _ _), KB.t (kb_below hb) (kb_st16 (by omega) _ _ _ _ _), ⟨JU.st16o (by omega) _ _ _ _, ?_, JZ.st16o (by omega) _ _ _ _⟩, Bel.st16 (Bel.call hB hb) (by omega) _ _ _ _⟩
      rw [HN.out]
      exact JB.st16 _ _ _ _
    · have HN : Hid (lsts U (pre ++ [true]) = ((sb B D A C), (sd B D A C U), (sa B D), (sc' B D))) := by
        show lsts U (pre ++ [true]) = _
        rw [lsts_snoc, hs]; rfl
      gi_wp2
      refine wpIn_region_below_tail 7 (by kernel_rfl) (by kernel_rfl) ?_
      simp only [List.take_succ_cons, List.take_zero, List.drop_succ_cons, List.drop_zero]
      repeat (go_big_quiet_step (first | (go_at_call 104; with_reducible exact Calls.regrown_of (exch1 _ _ _ _ _)) | (go_at_call 105; exact Calls.regrown_of (step_any B D A C U iB iD iA iC iU _))))
      refine wpQuiet_nil ?_
      intro w3 hw'
      obtain ⟨⟨dq, osq⟩, hw''⟩ := hw'
      have hb := below_of hw''
      clear hw'' ru0 ru1 ru2 ru3 rb0 rb1 rb2 rb3 rb4 rb5 rb6 rb7 rb8 rb9 rb10 rb11 rb12 rb13 rb14 rb15
      have JU := IU.below hb IU.lt
      have JB := IB.below hb IB.lt
      have JZ := IZ.below hb IZ.lt
      have cb := JB.c
      have zb := JB.z
      gi_wp2
      refine ⟨(ko_below hb).trans (ko_st16 _ _ _ _ _ _), KB.t (kb_below hb) (kb_st16 (by omega) _ _ _ _ _), ⟨JU.st16o (by omega) _ _ _ _, ?_, JZ.st16o (by omega) _ _ _ _⟩, Bel.st16 (Bel.call hB hb) (by omega) _ _ _ _⟩
      rw [HN.out]
      exact JB.st16 _ _ _ _
  case done =>
    clear QU QZ QB QK hB2 CB
    rintro D ys W hD rfl ⟨⟨IU, IB, IZ⟩, hB⟩ hK
    generalize lsts U (upto K 255 255) = s at *
    obtain ⟨a, c, b, d⟩ := s
    have rb0 := IB.cv 0 (by omega) (.int .u64 (lim a 0)) rfl
    have rb1 := IB.cv 1 (by omega) (.int .u64 (lim a 1)) rfl
    have rb2 := IB.cv 2 (by omega) (.int .u64 (lim a 2)) rfl
    have rb3 := IB.cv 3 (by omega) (.int .u64 (lim a 3)) rfl
    have rb4 := IB.cv 4 (by omega) (.int .u64 (lim c 0)) rfl
    have rb5 := IB.cv 5 (by omega) (.int .u64 (lim c 1)) rfl
    have rb6 := IB.cv 6 (by omega) (.int .u64 (lim c 2)) rfl
    have rb7 := IB.cv 7 (by omega) (.int .u64 (lim c 3)) rfl
    gi_wp2_with (refine ⟨trivial, ?_⟩; gi_at_call 106; refine (callsIn_wide.2 (CV _)).mono ?_; rintro e w3 ⟨rfl, hb⟩; have JZ := IZ.below hb IZ.lt; have cz := JZ.c; have zz := JZ.z)
    have hK1 := (ko_below hb).same D _ hK rfl
    have hK' := (ko_set4 w3 (w.heap.size + 1 + 1) (.int .u64 (lim R 0)) (.int .u64 (lim R 1)) (.int .u64 (lim R 2)) (.int .u64 (lim R 3))).same D _ hK1 rfl
    have G6 := set4 JZ (.int .u64 (lim R 0)) (.int .u64 (lim R 1)) (.int .u64 (lim R 2)) (.int .u64 (lim R 3)) (fun j => .int .u64 (lim R j)) rfl rfl rfl rfl
    have H6 := arr_kept G6 (grownBy_putObj' _ D (.deferred none)) (fun r e => by cases e; exact ⟨_, hK', rfl⟩)
    refine ⟨by simp, .inl ⟨_, _, rfl, run_takeDeferred hK', ?_⟩⟩
    have c6 := H6.c
    refine ⟨nv R, by simp [results, Try.results74, go_sem, c6], rfl, ?_⟩
    exact (bel4 (Bel.call hB hb) (b := w.heap.size + 1 + 1) (by omega) _ _ _ _).trans (belowK_b (w := w) (Nat.le_refl _) _ D _ _ (by simp at hD; omega) hK' rfl rfl)
  case stop =>
    rintro D c pre W _ _ h _
    exact h.elim
theorem ladder_any (K U : Int) (iK : Inn K) (iU : Inn U) (w : World) :
    Calls Try.prog 74 #[nv K, nv U] w fun e w' => e = .returned (nv (vl (lsts U (upto K 255 255)).1 (lsts U (upto K 255 255)).2.1)) ∧ Below w.heap.size w w' :=
  ladder_core K U _ w iU (fun k W hk => bit_bv K k iK.1 iK.2 (by omega) W) (fun W => value_any _ _ (inn4_sts U iU _).1 (inn4_sts U iU _).2.1 W)
end Go.Proofs.Ytpigofooblmdhaa
