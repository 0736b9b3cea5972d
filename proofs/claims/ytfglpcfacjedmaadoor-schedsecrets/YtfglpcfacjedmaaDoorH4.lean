/- hkdf.blocks hands out what a key is expanded to. -/
import Derived.Test.YtfglpcfacjedmaaDoorC9
import Derived.Test.YtfglpcfacjedmaaDoorH1
set_option linter.all false
set_option maxRecDepth 100000
namespace Go.Proofs.YtfglpcfacjedmaaDoor
open Go.RowKit Go.Shelf Go.Sort
attribute [local go_sem] Oper.semAt_some
theorem Tab.lo {w W : World} {m : Nat} (h : Tab w) (hb : Below m w W) (h1 : 1 < m) : Tab W :=
  ⟨fun j hj => (hb.cell (p := ⟨0, j, none⟩) (Nat.lt_trans Nat.zero_lt_one h1)).trans (h.1 j hj), fun j hj => (hb.cell (p := ⟨1, j, none⟩) h1).trans (h.2.1 j hj), Nat.lt_of_lt_of_le h.2.2 hb.size⟩
/-- A block of a key's bytes. -/
abbrev Blk32 : Type := { x : ByteArray // x.size = 32 }
def upT (T : Nat → ByteArray) (k : Nat) : List ByteArray := (List.range k).map (fun j => T (j + 1))
theorem upT_succ (T : Nat → ByteArray) (k : Nat) : upT T (k + 1) = upT T k ++ [T (k + 1)] := by simp [upT, List.range_succ]
theorem upT_len (T : Nat → ByteArray) (k : Nat) : (upT T k).length = k := by simp [upT]
theorem upT_pre (T : Nat → ByteArray) {j k : Nat} (h : j ≤ k) : upT T j <+: upT T k := by
  obtain ⟨d, rfl⟩ := Nat.exists_eq_add_of_le h
  induction d with
  | zero => exact List.prefix_refl _
  | succ d ih => rw [← Nat.add_assoc, upT_succ]; exact (ih (by omega)).trans (List.prefix_append _ _)
set_option maxHeartbeats 4000000 in
theorem hblocks1_in (T B : Nat → ByteArray) (prk info : ByteArray) (n l bp bi n₀ : Nat) (hn : 1 ≤ n) (Jv Jx : List Blk32 → World → Prop) {b : Nat}
    (hT0 : (T 0).size = 0) (hT32 : ∀ k, (T (k + 1)).size = 32) (hB1 : ∀ k, (B k).size = 1) (hi : info.size ≤ 10000) (hJ : AbidesFrom b Jv)
    (C24 : ∀ (k : Nat) W, Calls Tryd.prog 62 #[.int .i64 ((k : Int) + 1)] W fun e w' => e = .returned (.string (B (k + 1))) ∧ Below W.heap.size W w')
    (C23 : ∀ k W, Tab W → Calls Tryd.prog 30 #[.string prk, .string (T k ++ info ++ B (k + 1))] W fun e w' => e = .returned (.string (T (k + 1))) ∧ Below W.heap.size W w')
    (hY : ∀ pre (x : Blk32) W, Jv pre W → pre.length < 255 → YieldAt Fence.wide (n - 1) Tryd.prog l #[.string x.1] W fun e W' =>
      (e = .returned (.bool true) ∧ Jv (pre ++ [x]) W' ∧ Below n₀ W W') ∨ (e = .returned (.bool false) ∧ Jx (pre ++ [x]) W'))
    (W : World) (hTab : Tab W) (h1 : 1 < n₀) (hpl : bp < n₀) (hil : bi < n₀) (hsz : n₀ ≤ W.heap.size)
    (cp : W.cell? ⟨bp, 0, none⟩ = some (.string prk)) (ci : W.cell? ⟨bi, 0, none⟩ = some (.string info)) (h0 : Jv [] W) :
    CallsIn Fence.wide n Tryd.prog 77 #[.func (.yield l) #[] #[], .pointer (some ⟨bp, 0, none⟩), .pointer (some ⟨bi, 0, none⟩)] W fun e W' => (∃ v, e = .returned v) ∧
      ((∃ ys : List Blk32, ys.map (·.1) = upT T 255 ∧ Jv ys W') ∨ (∃ pre : List Blk32, pre.map (·.1) <+: upT T 255 ∧ Jx pre W')) := by
  have hd : 1 ≤ n := hn
  refine callsIn_of_wp Tryd.func77 rfl trivial ?_ rfl
  simp only [Tryd.ntmps77, List.size_toArray, List.length_cons, List.length_nil, Nat.reduceAdd, Nat.reduceSub, Array.replicate_succ, Array.replicate_zero, List.push_toArray, List.append_toArray, List.nil_append, List.cons_append]
  have e0 : T 0 = ⟨#[]⟩ := by apply ba_ext; exact List.eq_nil_of_length_eq_zero (by rw [Array.length_toList]; exact hT0)
  gi_wp2
  gi_loopw [4, 5] (fun s i wr => ∃ (k : Nat) (ys : List Blk32), k ≤ 255 ∧ s = .string (T k) ∧ i = .int .i64 ((k : Int) + 1) ∧ ys.map (·.1) = upT T k ∧ Jv ys wr ∧ Below n₀ W wr) (fun _ i _ => 256 - (intOf i).toNat)
  case atStart => exact ⟨0, [], by omega, by rw [e0], rfl, rfl, h0, Below.refl _ _⟩
  case round =>
    clear h0 e0
    obtain ⟨k, ys, hk, rfl, rfl, hys, hJs, hW⟩ := hrel
    have k0 : (0 : Int) ≤ (k : Int) := by omega
    have ylen : ys.length = k := by have := congrArg List.length hys; rwa [List.length_map, upT_len] at this
    have tk : (T k).size ≤ 32 := by
      cases k with
      | zero => omega
      | succ k => rw [hT32]; omega
    by_cases hlt : k < 255
    · have k1 : (k : Int) + 1 ≤ 255 := by omega
      have cp1 := (hW.cell (p := ⟨bp, 0, none⟩) hpl).trans cp
      have ci1 := (hW.cell (p := ⟨bi, 0, none⟩) hil).trans ci
      have t1 := hTab.lo hW h1
      have tR := fun ds os => t1.bel (below_regrown wr ds os)
      have rp := fun ds os => cell_regrown cp1 ds os
      have ri := fun ds os => cell_regrown ci1 ds os
      have c24 := C24 k
      have c23 := C23 k
      have b1 := hB1 (k + 1)
      have t32 := hT32 k
      have HU : Hid (upT T (k + 1) = upT T k ++ [T (k + 1)]) := upT_succ T k
      have HY : Hid (ys.map (·.1) = upT T k) := hys
      have HP : Hid (upT T (k + 1) <+: upT T 255) := upT_pre T (by omega)
      clear C24 C23 hys
      obtain ⟨tn, htn⟩ : ∃ x, T (k + 1) = x := ⟨_, rfl⟩
      rw [htn] at c23 t32 HU
      have HN : Hid (T (k + 1) = tn) := htn
      clear htn
      generalize B (k + 1) = bn at *
      generalize T k = tc at *
      gi_wp2
      refine wpIn_wide.2 ?_
      refine wp_region_quiet_below (by kernel_rfl) (by kernel_rfl) ?_
      repeat (go_big_quiet_step (first | (go_at_call 62; exact Calls.regrown_of (c24 _)) | (go_at_call 30; exact Calls.regrown_of (c23 _ (tR _ _)))))
      refine wpQuiet_nil ?_
      intro w1 hw'
      obtain ⟨⟨dq, osq⟩, hw''⟩ := hw'
      have hb := below_of hw''
      clear hw'' rp ri tR c24 c23
      have hJ1 := hJ ys wr w1 none hJs (gby hb) (fun r e => by cases e)
      have hW1 : Below n₀ W w1 := hW.trans (hb.mono (Nat.le_trans hsz hW.size))
      obtain ⟨fn, tmps, assign, body, hy, hR⟩ := hY ys ⟨tn, t32⟩ w1 hJ1 (by omega)
      gi_wp2
      refine hR.mono ?_
      rintro e W3 (⟨rfl, hJ3, hb3⟩ | ⟨rfl, hJx3⟩)
      · gi_wp2
        refine ⟨⟨k + 1, ys ++ [⟨tn, t32⟩], by omega, ?_, by go_num, ?_, hJ3, hW1.trans hb3⟩, by simp [intOf]; omega⟩
        · rw [HN.out]
        · rw [List.map_append, HY.out, HU.out]; rfl
      · gi_wp2
        refine bodyPost_ret (results_none rfl _ _ _) rfl ?_
        refine ⟨⟨_, rfl⟩, .inr ⟨ys ++ [⟨tn, t32⟩], ?_, hJx3⟩⟩
        have := HP.out
        rw [HU.out, ← HY.out] at this
        rw [List.map_append]
        exact this
    · have k1 : ¬ (k : Int) + 1 ≤ 255 := by omega
      gi_wp2
      go_end0
      refine ⟨⟨_, rfl⟩, .inl ⟨ys, ?_, hJs⟩⟩
      show ys.map (·.1) = _
      rw [hys, show k = 255 by omega]
theorem hblocks_seq (T B : Nat → ByteArray) (prk info : ByteArray) (n bp bi n₀ : Nat) (hn : 1 ≤ n)
    (hT0 : (T 0).size = 0) (hT32 : ∀ k, (T (k + 1)).size = 32) (hB1 : ∀ k, (B k).size = 1) (hi : info.size ≤ 10000)
    (C24 : ∀ (k : Nat) W, Calls Tryd.prog 62 #[.int .i64 ((k : Int) + 1)] W fun e w' => e = .returned (.string (B (k + 1))) ∧ Below W.heap.size W w')
    (C23 : ∀ k W, Tab W → Calls Tryd.prog 30 #[.string prk, .string (T k ++ info ++ B (k + 1))] W fun e w' => e = .returned (.string (T (k + 1))) ∧ Below W.heap.size W w')
    (w0 : World) (hTab : Tab w0) (h1 : 1 < n₀) (hpl : bp < n₀) (hil : bi < n₀) (hsz : n₀ ≤ w0.heap.size)
    (cp : w0.cell? ⟨bp, 0, none⟩ = some (.string prk)) (ci : w0.cell? ⟨bi, 0, none⟩ = some (.string info)) :
    SeqStopsK Fence.wide n Tryd.prog 77 #[.pointer (some ⟨bp, 0, none⟩), .pointer (some ⟨bi, 0, none⟩)] (fun x : Blk32 => #[.string x.1]) (Below n₀) (fun ys => ys.map (·.1) = upT T 255) (fun pre => pre.map (·.1) <+: upT T 255) 255 w0 :=
  fun l Jv Jx W hW hJ _ hY h0 => hblocks1_in T B prk info n l bp bi n₀ hn Jv Jx hT0 hT32 hB1 hi hJ C24 C23 hY W (hTab.to hW) h1 hpl hil (Nat.le_trans hsz hW.size)
    ((hW.cell (p := ⟨bp, 0, none⟩) (Nat.lt_of_lt_of_le hpl hsz)).trans cp) ((hW.cell (p := ⟨bi, 0, none⟩) (Nat.lt_of_lt_of_le hil hsz)).trans ci) h0
set_option maxHeartbeats 1000000 in
theorem hblocks_any (prk info : ByteArray) (w : World) : Calls Tryd.prog 65 #[.string prk, .string info] w fun e w' => e = .returned (.func (.func 77) #[] #[.pointer (some ⟨w.heap.size, 0, none⟩), .pointer (some ⟨w.heap.size + 1, 0, none⟩)]) ∧ w' = (w.alloc (.cells #[.string prk] 9)).alloc (.cells #[.string info] 9) := by
  go_enter Tryd.func65, Tryd.ntmps65
  go_wp2
  go_ret
  exact ⟨rfl, rfl⟩
end Go.Proofs.YtfglpcfacjedmaaDoor
