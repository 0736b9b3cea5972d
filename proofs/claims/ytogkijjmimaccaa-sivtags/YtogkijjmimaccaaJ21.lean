/- S2v. -/
import Derived.Test.YtogkijjmimaccaaJ20
set_option linter.all false
set_option maxRecDepth 100000
namespace Go.Proofs.Ytogkijjmimaccaa
open Go.RowKit Go.Sort Lin
/-- What is wrong with a key and a row. -/
def s2E (key : ByteArray) (l : List ByteArray) : Int := if kE key = 0 then (if 127 < l.length then 18 else 0) else kE key
/-- The tag of a row. -/
def s2F (key : ByteArray) (l : List ByteArray) : Nat → By :=
  match l.getLast? with
  | none => cm key oS
  | some s => rowF key l.dropLast s
def s2S (key : ByteArray) (l : List ByteArray) : ByteArray := if s2E key l = 0 then tx (s2F key l) else ⟨#[]⟩
theorem run_slice22 (a : Addr) (cap n k : Nat) (hk : k ≤ cap) (W : World) : (Instr.sliceAt 22 (.slice (some a) n cap) none (some (.int .i64 (k : Int))) none).run Try.prog W = .ok (.slice (some a) k cap) W := by
  have hs : (Go.sizeOf 9).run Try.prog W = .ok 1 W := by kernel_rfl
  have h0 : (0 : Int) ≤ (k : Int) ∧ (k : Int) ≤ (cap : Int) := by omega
  simp [Instr.sliceAt, Instr.slice, Instr.sliceBounds, Instr.sliceBound, asIntOf, Sem.run_bind, Sem.run_pure, Result.andThen_ok, run_underlying Try.underlying22, h0, hs, Addr.add]
  intro h
  omega
set_option maxHeartbeats 1000000 in
theorem sS2v_no (key : ByteArray) (v : Value) (l : List ByteArray) (TL : List Value) (r : Int) (f g : Nat → By) (k : ByteArray) (hT : Tgr TL k f g) (w : World) (hv : Txs w v l) (hl : l.length ≤ 1000)
    (C20 : ∀ W, Calls Try.prog 20 #[.string key] W fun e w' => e = .returned (.tuple #[.agg TL.toArray, .int .i64 r]) ∧ Below W.heap.size W w') (hr : ¬ r = 0) :
    Calls Try.prog 12 #[.string key, v] w fun e w' => e = .returned (.tuple #[.string ⟨#[]⟩, .int .i64 r]) ∧ Below w.heap.size w w' := by
  go_enter Try.func12, Try.ntmps12
  go_upto_region 1 with (fail)
  refine wp_region_list ?_
  refine wpList_plain (by rfl) fun K1 hK1 => ?_
  have H1 : Hid _ := hK1
  clear hK1
  go_wp2_with fail
  refine H1.out _ _ ?_
  clear H1
  refine wpList_plain (by rfl) fun K1 hK1 => ?_
  have H1 : Hid _ := hK1
  clear hK1
  go_wp2_with fail
  refine (C20 _).mono ?_
  rintro e w1 ⟨rfl, hb⟩
  refine H1.out _ _ ?_
  clear H1
  refine wpList_plain (by rfl) fun K1 hK1 => ?_
  have H1 : Hid _ := hK1
  clear hK1
  go_wp2_with fail
  refine H1.out _ _ ?_
  clear H1
  refine wpList_plain (by rfl) fun K1 hK1 => ?_
  have H1 : Hid _ := hK1
  clear hK1
  go_wp2_with fail
  refine H1.out _ _ ?_
  clear H1
  refine wpList_plain (by rfl) fun K1 hK1 => ?_
  have H1 : Hid _ := hK1
  clear hK1
  go_wp2_with fail
  refine H1.out _ _ ?_
  clear H1
  refine wpList_plain (by rfl) fun K1 hK1 => ?_
  have H1 : Hid _ := hK1
  clear hK1
  go_wp2_with fail
  refine H1.out _ _ ?_
  clear H1
  have A := new33 w1 _ rfl
  refine hT.wst t45 A (by rfl) (.tmp 6) (.tmp 12) (by rfl) (by rfl) (by rfl) ?_
  replace hb := below_setCells (Bel.al hb (.cells z33 45)) (b := w1.heap.size) (hb.size) TL 0
  replace A := hT.set A
  generalize (w1.alloc (.cells z33 45)).setCells w1.heap.size 0 TL = W2 at *
  generalize w1.heap.size = b at *
  clear C20
  go_wp2_with fail
  exact bodyPost_ret (v := .tuple #[.string ⟨#[]⟩, .int .i64 r]) (by simp [results, Try.results12, go_sem]) rfl ⟨rfl, hb⟩
theorem txs_len {w : World} {v : Value} {l : List ByteArray} (hv : Txs w v l) : ∃ a0 cap, v = .slice a0 l.length cap := by
  rcases hv with ⟨h1, h2⟩ | ⟨a, cap, h1, _⟩
  · exact ⟨none, 0, by rw [h1, h2]; rfl⟩
  · exact ⟨_, _, h1⟩
set_option maxHeartbeats 1000000 in
theorem sS2v_many (key : ByteArray) (v : Value) (l : List ByteArray) (TL : List Value) (r : Int) (f g : Nat → By) (k : ByteArray) (hT : Tgr TL k f g) (w : World) (hv : Txs w v l) (hl : l.length ≤ 1000)
    (C20 : ∀ W, Calls Try.prog 20 #[.string key] W fun e w' => e = .returned (.tuple #[.agg TL.toArray, .int .i64 r]) ∧ Below W.heap.size W w') (hr : r = 0) (h127 : 127 < l.length) :
    Calls Try.prog 12 #[.string key, v] w fun e w' => e = .returned (.tuple #[.string ⟨#[]⟩, .int .i64 18]) ∧ Below w.heap.size w w' := by
  obtain ⟨a0, cap, rfl⟩ := txs_len hv
  have n1 : (127 : Int) < (l.length : Int) := by omega
  subst hr
  clear hv hl h127
  generalize l.length = n at *
  go_enter Try.func12, Try.ntmps12
  go_upto_region 1 with (fail)
  refine wp_region_list ?_
  refine wpList_plain (by rfl) fun K1 hK1 => ?_
  have H1 : Hid _ := hK1
  clear hK1
  go_wp2_with fail
  refine H1.out _ _ ?_
  clear H1
  refine wpList_plain (by rfl) fun K1 hK1 => ?_
  have H1 : Hid _ := hK1
  clear hK1
  go_wp2_with fail
  refine (C20 _).mono ?_
  rintro e w1 ⟨rfl, hb⟩
  refine H1.out _ _ ?_
  clear H1
  refine wpList_plain (by rfl) fun K1 hK1 => ?_
  have H1 : Hid _ := hK1
  clear hK1
  go_wp2_with fail
  refine H1.out _ _ ?_
  clear H1
  refine wpList_plain (by rfl) fun K1 hK1 => ?_
  have H1 : Hid _ := hK1
  clear hK1
  go_wp2_with fail
  refine H1.out _ _ ?_
  clear H1
  refine wpList_plain (by rfl) fun K1 hK1 => ?_
  have H1 : Hid _ := hK1
  clear hK1
  go_wp2_with fail
  refine H1.out _ _ ?_
  clear H1
  refine wpList_plain (by rfl) fun K1 hK1 => ?_
  have H1 : Hid _ := hK1
  clear hK1
  go_wp2_with fail
  refine H1.out _ _ ?_
  clear H1
  have A := new33 w1 _ rfl
  refine hT.wst t45 A (by rfl) (.tmp 6) (.tmp 12) (by rfl) (by rfl) (by rfl) ?_
  replace hb := below_setCells (Bel.al hb (.cells z33 45)) (b := w1.heap.size) (hb.size) TL 0
  replace A := hT.set A
  generalize (w1.alloc (.cells z33 45)).setCells w1.heap.size 0 TL = W2 at *
  generalize w1.heap.size = b at *
  clear C20
  go_wp2_with fail
  exact bodyPost_ret (v := .tuple #[.string ⟨#[]⟩, .int .i64 18]) (by simp [results, Try.results12, go_sem]) rfl ⟨rfl, hb⟩
set_option maxHeartbeats 1000000 in
theorem sS2v_none (key : ByteArray) (v : Value) (l : List ByteArray) (TL : List Value) (r : Int) (f g : Nat → By) (k : ByteArray) (hT : Tgr TL k f g) (w : World) (hv : Txs w v l) (hl : l.length ≤ 1000)
    (C20 : ∀ W, Calls Try.prog 20 #[.string key] W fun e w' => e = .returned (.tuple #[.agg TL.toArray, .int .i64 r]) ∧ Below W.heap.size W w') (hr : r = 0) (h127 : l.length = 0) (K : List Value) (T : ByteArray)
    (C25 : ∀ W, Calls Try.prog 25 #[.agg TL.toArray] W fun e w' => e = .returned (.agg K.toArray) ∧ Below W.heap.size W w')
    (C22 : ∀ W, Calls Try.prog 22 #[.agg K.toArray] W fun e w' => e = .returned (.string T) ∧ Below W.heap.size W w') :
    Calls Try.prog 12 #[.string key, v] w fun e w' => e = .returned (.tuple #[.string T, .int .i64 0]) ∧ Below w.heap.size w w' := by
  obtain ⟨a0, cap, rfl⟩ := txs_len hv
  subst hr
  rw [h127]
  clear hv hl h127
  go_enter Try.func12, Try.ntmps12
  go_upto_region 1 with (fail)
  refine wp_region_list ?_
  refine wpList_plain (by rfl) fun K1 hK1 => ?_
  have H1 : Hid _ := hK1
  clear hK1
  go_wp2_with fail
  refine H1.out _ _ ?_
  clear H1
  refine wpList_plain (by rfl) fun K1 hK1 => ?_
  have H1 : Hid _ := hK1
  clear hK1
  go_wp2_with fail
  refine (C20 _).mono ?_
  rintro e w1 ⟨rfl, hb⟩
  refine H1.out _ _ ?_
  clear H1
  refine wpList_plain (by rfl) fun K1 hK1 => ?_
  have H1 : Hid _ := hK1
  clear hK1
  go_wp2_with fail
  refine H1.out _ _ ?_
  clear H1
  refine wpList_plain (by rfl) fun K1 hK1 => ?_
  have H1 : Hid _ := hK1
  clear hK1
  go_wp2_with fail
  refine H1.out _ _ ?_
  clear H1
  refine wpList_plain (by rfl) fun K1 hK1 => ?_
  have H1 : Hid _ := hK1
  clear hK1
  go_wp2_with fail
  refine H1.out _ _ ?_
  clear H1
  refine wpList_plain (by rfl) fun K1 hK1 => ?_
  have H1 : Hid _ := hK1
  clear hK1
  go_wp2_with fail
  refine H1.out _ _ ?_
  clear H1
  have A := new33 w1 _ rfl
  refine hT.wst t45 A (by rfl) (.tmp 6) (.tmp 12) (by rfl) (by rfl) (by rfl) ?_
  replace hb := below_setCells (Bel.al hb (.cells z33 45)) (b := w1.heap.size) (hb.size) TL 0
  replace A := hT.set A
  generalize (w1.alloc (.cells z33 45)).setCells w1.heap.size 0 TL = W2 at *
  generalize w1.heap.size = b at *
  clear C20
  go_upto_region 7 with (fail)
  refine wp_region_list ?_
  refine hT.wld t45 A 0 (by omega) (fun j _ => by rw [Nat.zero_add]) (by rfl) (.tmp 6) (by rfl) (by rfl) ?_
  go_wp2_with fail
  refine (C25 _).mono ?_
  rintro e w3 ⟨rfl, hb3⟩
  replace hb := Bel.call hb hb3
  clear hb3 C25 A
  go_wp2_with fail
  refine (C22 _).mono ?_
  rintro e w4 ⟨rfl, hb3⟩
  replace hb := Bel.call hb hb3
  clear hb3 C22
  go_wp2_with fail
  exact bodyPost_ret (v := .tuple #[.string T, .int .i64 0]) (by simp [results, Try.results12, go_sem]) rfl ⟨rfl, hb⟩
set_option maxHeartbeats 1000000 in
theorem sS2v_some (key : ByteArray) (a : Addr) (cap m : Nat) (l : List ByteArray) (s : ByteArray) (TL : List Value) (f g : Nat → By) (k : ByteArray) (hT : Tgr TL k f g) (w : World) (hm : m < 127) (hcap : m + 1 ≤ cap) (hx : Txs w (.slice (some a) m cap) l) (hc : w.cell? (a.add m) = some (.string s))
    (C20 : ∀ W, Calls Try.prog 20 #[.string key] W fun e w' => e = .returned (.tuple #[.agg TL.toArray, .int .i64 0]) ∧ Below W.heap.size W w') (K : List Value) (T : ByteArray)
    (C26 : ∀ W, Txs W (.slice (some a) m cap) l → Calls Try.prog 26 #[.agg TL.toArray, .string s, .slice (some a) m cap] W fun e w' => e = .returned (.agg K.toArray) ∧ Below W.heap.size W w')
    (C22 : ∀ W, Calls Try.prog 22 #[.agg K.toArray] W fun e w' => e = .returned (.string T) ∧ Below W.heap.size W w') :
    Calls Try.prog 12 #[.string key, .slice (some a) (m + 1) cap] w fun e w' => e = .returned (.tuple #[.string T, .int .i64 0]) ∧ Below w.heap.size w w' := by
  have m0 : (0 : Int) ≤ (m : Int) := by omega
  have m1 : (m : Int) < 127 := by omega
  have m2 : ((m + 1 : Nat) : Int) - 1 = (m : Int) := by omega
  have m3 : (m : Int) < ((m + 1 : Nat) : Int) := by omega
  have m4 : ¬ (127 : Int) < ((m + 1 : Nat) : Int) := by omega
  have m5 : ¬ ((m + 1 : Nat) : Int) = 0 := by omega
  obtain ⟨n, hn⟩ : ∃ n, m + 1 = n := ⟨_, rfl⟩
  rw [hn] at m2 m3 m4 m5 hcap ⊢
  clear hn
  go_enter Try.func12, Try.ntmps12
  go_upto_region 1 with (fail)
  refine wp_region_list ?_
  refine wpList_plain (by rfl) fun K1 hK1 => ?_
  have H1 : Hid _ := hK1
  clear hK1
  go_wp2_with fail
  refine H1.out _ _ ?_
  clear H1
  refine wpList_plain (by rfl) fun K1 hK1 => ?_
  have H1 : Hid _ := hK1
  clear hK1
  go_wp2_with fail
  refine (C20 _).mono ?_
  rintro e w1 ⟨rfl, hb⟩
  refine H1.out _ _ ?_
  clear H1
  refine wpList_plain (by rfl) fun K1 hK1 => ?_
  have H1 : Hid _ := hK1
  clear hK1
  go_wp2_with fail
  refine H1.out _ _ ?_
  clear H1
  refine wpList_plain (by rfl) fun K1 hK1 => ?_
  have H1 : Hid _ := hK1
  clear hK1
  go_wp2_with fail
  refine H1.out _ _ ?_
  clear H1
  refine wpList_plain (by rfl) fun K1 hK1 => ?_
  have H1 : Hid _ := hK1
  clear hK1
  go_wp2_with fail
  refine H1.out _ _ ?_
  clear H1
  refine wpList_plain (by rfl) fun K1 hK1 => ?_
  have H1 : Hid _ := hK1
  clear hK1
  go_wp2_with fail
  refine H1.out _ _ ?_
  clear H1
  have A := new33 w1 _ rfl
  refine hT.wst t45 A (by rfl) (.tmp 6) (.tmp 12) (by rfl) (by rfl) (by rfl) ?_
  replace hb := below_setCells (Bel.al hb (.cells z33 45)) (b := w1.heap.size) (hb.size) TL 0
  replace A := hT.set A
  generalize (w1.alloc (.cells z33 45)).setCells w1.heap.size 0 TL = W2 at *
  generalize w1.heap.size = b at *
  clear C20
  have hX := hx.to hb
  have hbb := hb
  have cc : W2.cell? (a.add m) = some (.string s) := (hb.cell (block_lt_of_cell hc)).trans hc
  clear hc hx
  go_upto_region 9 with (fail)
  refine wp_region_quiet_below (by kernel_rfl) (by kernel_rfl) ?_
  have r0 := fun ds os => cell_regrown cc ds os
  refine hT.qld (N := 32) t45 A 0 (by omega) (fun j _ => by rw [Nat.zero_add]) (fun W hW => cw_bel hW) (by rfl) (.tmp 6) (by rfl) (by rfl) ?_
  simp only [Act.put, List.setIfInBounds_toArray, List.set_cons_succ, List.set_cons_zero]
  go_big_quiet_step (fail)
  go_big_quiet_step (fail)
  go_big_quiet_step (fail)
  go_big_quiet_step (fail)
  go_big_quiet_step (fail)
  go_big_quiet_step (fail)
  refine qval (.slice (some a) m cap) (by rfl) (fun W => ?_) ?_
  · have e := run_slice22 a cap n m (by omega) W
    simp [execOp, Act.eval, e]
  simp only [Act.put, List.setIfInBounds_toArray, List.set_cons_succ, List.set_cons_zero]
  go_big_quiet_step ((go_at_call 26; exact Calls.regrown_of (C26 _ (hX.to (below_regrown _ _ _)))))
  go_big_quiet_step ((go_at_call 22; exact Calls.regrown_of (C22 _)))
  go_big_quiet_step (fail)
  go_big_quiet_step (fail)
  refine wpQuiet_nil ?_
  intro w3 hw'
  obtain ⟨⟨dq, osq⟩, hw''⟩ := hw'
  have hb := below_of hw''
  clear hw'' C26 C22 r0
  replace hb := Bel.call hbb hb
  go_wp2_with fail
  exact bodyPost_ret (v := .tuple #[.string T, .int .i64 0]) (by simp [results, Try.results12, go_sem]) rfl ⟨rfl, hb⟩
theorem last_of {l : List ByteArray} (h : ¬ l.length = 0) : ∃ s, l.getLast? = some s ∧ l[l.length - 1]? = some s ∧ l.dropLast.length + 1 = l.length := by
  have hl : l ≠ [] := fun e => h (by rw [e]; rfl)
  refine ⟨l.getLast hl, List.getLast?_eq_some_getLast hl, ?_, by rw [List.length_dropLast]; omega⟩
  rw [← List.getLast?_eq_getElem?]
  exact List.getLast?_eq_some_getLast hl
theorem Txs.drop {w : World} {a : Addr} {cap m : Nat} {l : List ByteArray} (hl : l.length = m + 1) (hc : m + 1 ≤ cap) (h : ∀ (i : Nat) (s : ByteArray), l[i]? = some s → w.cell? (a.add i) = some (.string s)) : Txs w (.slice (some a) m cap) l.dropLast := by
  refine .inr ⟨a, cap, by rw [List.length_dropLast, hl, Nat.add_sub_cancel], by rw [List.length_dropLast, hl]; omega, fun i s hi => h i s ?_⟩
  have hi' := (List.getElem?_eq_some_iff.1 hi).1
  rw [List.length_dropLast] at hi'
  rw [← hi, List.dropLast_eq_take, List.getElem?_take, if_pos hi']
theorem sS2v_any (key : ByteArray) (v : Value) (l : List ByteArray) (hl : l.length ≤ 1000) (hls : ∀ s ∈ l, s.size ≤ 1000000) (w : World) (hv : Txs w v l) :
    Calls Try.prog 12 #[.string key, v] w fun e w' => e = .returned (.tuple #[.string (s2S key l), .int .i64 (s2E key l)]) ∧ Below w.heap.size w w' := by
  have C20 := fun W => staggerOf_any key W
  unfold tgV at C20
  by_cases h : kE key = 0
  · rw [if_pos h, h] at C20
    have hk := kE_0.1 h
    by_cases h127 : 127 < l.length
    · have e : s2E key l = 18 := by unfold s2E; rw [if_pos h, if_pos h127]
      unfold s2S
      rw [e, if_neg (by decide)]
      exact sS2v_many key v l _ 0 _ _ _ (tgr key _ _) w hv hl C20 rfl h127
    · have e : s2E key l = 0 := by unfold s2E; rw [if_pos h, if_neg h127]
      unfold s2S
      rw [e, if_pos rfl]
      by_cases h0 : l.length = 0
      · have e2 : s2F key l = cm key oS := by
          have : l = [] := List.eq_nil_of_length_eq_zero h0
          subst this
          rfl
        rw [e2]
        exact sS2v_none key v l _ 0 _ _ _ (tgr key _ _) w hv hl C20 rfl h0 _ _ (fun W => snoRow_any key hk W) (fun W => stext_any _ W)
      · obtain ⟨s, h1, h2, h3⟩ := last_of h0
        have e2 : s2F key l = rowF key l.dropLast s := by unfold s2F; rw [h1]
        rw [e2]
        rcases hv with ⟨_, hn⟩ | ⟨a, cap, rfl, hcap, hc⟩
        · rw [hn] at h0; exact absurd rfl h0
        · obtain ⟨m, hm⟩ : ∃ m, l.length = m + 1 := ⟨l.length - 1, by omega⟩
          have hx := Txs.drop (a := a) (w := w) (cap := cap) hm (by omega) hc
          have hc' := hc _ s h2
          rw [hm, Nat.add_sub_cancel] at hc'
          rw [hm] at hcap ⊢
          refine sS2v_some key a cap m l.dropLast s _ _ _ _ (tgr key _ _) w (by omega) hcap hx hc' C20 _ _ (fun W hW => ?_) (fun W => stext_any _ W)
          exact srow_any key s hk l.dropLast _ (by omega) (fun t ht => hls t (List.dropLast_subset _ ht)) (hls s (List.mem_of_getElem? h2)) W hW
  · rw [if_neg h] at C20
    have e : s2E key l = kE key := by unfold s2E; rw [if_neg h]
    unfold s2S
    rw [e, if_neg h]
    exact sS2v_no key v l _ _ _ _ _ (tgr _ _ _) w hv hl C20 h
end Go.Proofs.Ytogkijjmimaccaa
