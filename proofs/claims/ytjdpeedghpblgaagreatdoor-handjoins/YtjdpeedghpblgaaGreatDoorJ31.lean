/- Package hand: a signature is read. -/
import Derived.Test.YtjdpeedghpblgaaGreatDoorJ30
import Derived.Test.YtjdpeedghpblgaaGreatDoorJ1
set_option linter.all false
set_option maxRecDepth 100000
namespace Go.Proofs.YtjdpeedghpblgaaGreatDoor
open Go.RowKit Go.Sort Go.Shelf
def tiF (s : ByteArray) : Option Int := if tiE (sL s) = 0 then some (beV (cut0 (sL s))) else none
def vfF (s : ByteArray) : Option (Mg × ByteArray) := (psF ⟨#[4, 3]⟩ s).bind fun s1 => (vcF 2 s1).bind fun x => (paF x.1 [48]).bind fun r => (paF (r.getD 0 nS) [2, 2]).bind fun q => (tiF (q.getD 0 nS)).bind fun a => (tiF (q.getD 1 nS)).bind fun b => some (⟨0, nS, nS, nS, nS, nS, [], a, b, nS⟩, x.2)
theorem pa_len {s : ByteArray} {T : List Int} {l : List ByteArray} (h : paF s T = some l) : l.length = T.length := by
  unfold paF at h
  split at h
  · split at h
    · rename_i e
      cases h
      rw [← e, List.length_map, List.length_map]
    · cases h
  · cases h
theorem pa_le {s : ByteArray} {T : List Int} {l : List ByteArray} (h : paF s T = some l) : ∀ c ∈ l, c.size ≤ s.size := by
  unfold paF at h
  split at h
  · rename_i l0 e0
    split at h
    · cases h
      intro c hc
      obtain ⟨q, hq, rfl⟩ := List.mem_map.1 hc
      exact alG_size 64 s [] l0 s.size (Nat.le_refl _) (fun p hp => by cases hp) e0 q hq
    · cases h
  · cases h
theorem txs_at {w : World} {v : Value} {l : List ByteArray} {b : Nat} (h : Txs w v l) (f : Fsh b v) (ne : l ≠ []) : ∃ g c, v = .slice (some ⟨g, 0, none⟩) l.length c ∧ ∀ i s, l[i]? = some s → w.cell? ⟨g, i, none⟩ = some (.string s) := by
  rcases h with ⟨_, h⟩ | ⟨a, c, rfl, _, h⟩
  · exact absurd h ne
  · obtain ⟨g, rfl, _⟩ := f a _ _ rfl
    refine ⟨g, c, rfl, fun i s hi => ?_⟩
    have := h i s hi
    rwa [Addr.add_mid, Nat.zero_add] at this
/-- What the last region's operations give. -/
def vfV (g : Nat) (n0 n1 : ByteArray) (p0 p1 : Value → Prop) (x y : Value) (E0 E1 : Int) (L8 L : List Value) (vq : Value) : Nat → Value → World → Prop
  | 0, v, _ => v = vq
  | 1, v, _ => v = .pointer (some ⟨g, 0, none⟩)
  | 2, v, _ => v = .string n0
  | 3, v, _ => v = .tuple #[x, .int .i64 E0]
  | 4, v, _ => v = x
  | 5, v, _ => v = .int .i64 E0
  | 6, v, _ => p0 v
  | 7, v, _ => v = vq
  | 8, v, _ => v = .pointer (some ⟨g, 1, none⟩)
  | 9, v, _ => v = .string n1
  | 10, v, _ => v = .tuple #[y, .int .i64 E1]
  | 11, v, _ => v = y
  | 12, v, _ => v = .int .i64 E1
  | 13, v, _ => p1 v
  | 14, v, _ => L8 ≠ [] ∧ v = .agg L8.toArray
  | 15, v, _ => v = .agg L.toArray
  | _, _, _ => False
theorem vfV.st (g : Nat) (n0 n1 : ByteArray) (p0 p1 : Value → Prop) (x y : Value) (E0 E1 : Int) (L8 L : List Value) (vq : Value) (i : Nat) (v : Value) (w w' : World) (h : vfV g n0 n1 p0 p1 x y E0 E1 L8 L vq i v w) (_ : Below w.heap.size w w') : vfV g n0 n1 p0 p1 x y E0 E1 L8 L vq i v w' := by
  match i, h with
  | 0, h | 1, h | 2, h | 3, h | 4, h | 5, h | 6, h | 7, h | 8, h | 9, h | 10, h | 11, h | 12, h | 13, h | 14, h | 15, h => exact h
set_option maxHeartbeats 2000000 in
theorem rVf : RdC 48 Vm vfF := by
  intro p s w hz h
  have lt0 := h.lt
  have A2 := newZ w w.heap.size rfl
  have hB0 := Below.alloc (Below.refl w.heap.size w) (Nat.le_refl _) (.cells z16 29)
  have hR := h.to hB0
  have hU := Below.upto p hB0
  have z0 : (w.alloc (.cells z16 29)).heap.size = w.heap.size + 1 := by simp
  have pq : w.heap.size ≠ p := by omega
  go_enter Tryz.func48, Tryz.ntmps48
  go_wp2_with fail
  generalize w.alloc (.cells z16 29) = w0 at *
  refine (pass_any p s ⟨#[4, 3]⟩ (by omega) w0 hR).mono ?_
  rintro xe w1 ⟨hU1, hx⟩
  have z1 := hU1.size
  replace A2 : Arr w1 w.heap.size 16 _ := fun j hj => ⟨by rw [hU1.cell (by show w.heap.size < _; omega) pq]; exact (A2 j hj).1, by rw [hU1.frozen (by show w.heap.size < _; omega) pq]; exact (A2 j hj).2⟩
  replace hU := hU.trans hU1
  have HH : Hid _ := hx
  clear hx
  cases h1 : psF ⟨#[4, 3]⟩ s with
  | none =>
    have hx := HH.out
    rw [h1] at hx
    cases hx
    have e : vfF s = none := by simp only [vfF, Option.bind_some, Option.bind_none, Option.map_none, Option.map_some, h1]
    go_wp2_with fail
    exact ⟨rfl, hU, by rw [e]; rfl⟩
  | some y1 =>
    have hx := HH.out
    clear HH
    rw [h1] at hx
    obtain ⟨v, rfl, hv, hR⟩ := hx
    cases hv
    have q1 := ps_le h1
    generalize y1 = r1 at *
    have H1 : Hid _ := h1
    clear h1
    go_wp2_with fail
    refine (vector_any p r1 2 (by omega) (by omega) w1 hR).mono ?_
    rintro xe w2 ⟨hU2, hx⟩
    have z2 := hU2.size
    replace A2 : Arr w2 w.heap.size 16 _ := fun j hj => ⟨by rw [hU2.cell (by show w.heap.size < _; omega) pq]; exact (A2 j hj).1, by rw [hU2.frozen (by show w.heap.size < _; omega) pq]; exact (A2 j hj).2⟩
    replace hU := hU.trans hU2
    have HH : Hid _ := hx
    clear hx
    cases h2 : vcF 2 r1 with
    | none =>
      have hx := HH.out
      rw [h2] at hx
      cases hx
      have e : vfF s = none := by simp only [vfF, H1.out, Option.bind_some, Option.bind_none, Option.map_none, Option.map_some, h2]
      go_wp2_with fail
      exact ⟨rfl, hU, by rw [e]; rfl⟩
    | some y2 =>
      obtain ⟨x, r2⟩ := y2
      have hx := HH.out
      clear HH
      rw [h2] at hx
      obtain ⟨v, rfl, hv, hR⟩ := hx
      cases hv
      have q2 := vc_le (by omega) h2
      have H2 : Hid _ := h2
      clear h2
      have C48 : Ints (w2.alloc (.cells #[.int .i64 48] 3)) w2.heap.size [48] := fun i t e => by
        match i, e with
        | 0, e => cases e; simp [go_sem]
      have b3 := Below.alloc (Below.refl w2.heap.size w2) (Nat.le_refl _) (.cells #[.int .i64 48] 3)
      have P1 := parts_any x (by omega) [48] (Or.inl rfl) w2.heap.size 1 _ C48
      have hR3 := hR.to b3
      have A3 := Arr.to' (n := 15) A2 b3
      have hU3 := hU.trans (Below.upto p b3)
      have s3 := b3.size
      clear hR A2 hU
      go_wp2_with fail
      refine P1.mono ?_
      generalize w2.alloc (.cells #[.int .i64 48] 3) = w3 at *
      rintro xe w4 ⟨hB4, hx⟩
      have hR4 := hR3.to hB4
      have A4 := Arr.to' (n := 15) A3 hB4
      have hU4 := hU3.trans (Below.upto p hB4)
      have s4 := hB4.size
      have HH : Hid _ := hx
      clear hx P1 C48 hR3 A3 hU3 b3
      cases h3 : paF x [48] with
      | none =>
        have hx := HH.out
        rw [h3] at hx
        cases hx
        have e : vfF s = none := by simp only [vfF, H1.out, H2.out, h3, Option.bind_some, Option.bind_none]
        go_wp2_with fail
        exact ⟨rfl, hU4, by rw [e]; rfl⟩
      | some r =>
        have hx := HH.out
        rw [h3] at hx
        obtain ⟨v, rfl, hT, hF⟩ := hx
        obtain ⟨rb, rfl⟩ : ∃ rb, r = [rb] := by
          have := pa_len h3
          match r, this with
          | [rb], _ => exact ⟨rb, rfl⟩
        have q3 := pa_le h3 rb (List.mem_singleton.2 rfl)
        obtain ⟨g, c, rfl, hc⟩ := txs_at hT hF (by simp)
        have c0 := hc 0 rb rfl
        have H3 : Hid _ := h3
        clear h3 HH hT hF hc
        have C22 : Ints (w4.alloc (.cells #[.int .i64 2, .int .i64 2] 3)) w4.heap.size [2, 2] := fun i t e => by
          match i, e with
          | 0, e => cases e; simp [go_sem]
          | 1, e => cases e; simp [go_sem]
        have b5 := Below.alloc (Below.refl w4.heap.size w4) (Nat.le_refl _) (.cells #[.int .i64 2, .int .i64 2] 3)
        have P2 := parts_any rb (by omega) [2, 2] (Or.inr rfl) w4.heap.size 2 _ C22
        have hR5 := hR4.to b5
        have A5 := Arr.to' (n := 15) A4 b5
        have hU5 := hU4.trans (Below.upto p b5)
        have s5 := b5.size
        clear hR4 A4 hU4
        go_wp2_with fail
        refine P2.mono ?_
        generalize w4.alloc (.cells #[.int .i64 2, .int .i64 2] 3) = w5 at *
        rintro xe w6 ⟨hB6, hx⟩
        have hR6 := hR5.to hB6
        have A6 := Arr.to' (n := 15) A5 hB6
        have hU6 := hU5.trans (Below.upto p hB6)
        have s6 := hB6.size
        have HH : Hid _ := hx
        clear hx P2 C22 hR5 A5 hU5 b5 c0
        cases h4 : paF rb [2, 2] with
        | none =>
          have hx := HH.out
          rw [h4] at hx
          cases hx
          have e : vfF s = none := by simp only [vfF, H1.out, H2.out, H3.out, List.getD_cons_zero, h4, Option.bind_some, Option.bind_none]
          go_wp2_with fail
          exact ⟨rfl, hU6, by rw [e]; rfl⟩
        | some q =>
          have hx := HH.out
          rw [h4] at hx
          obtain ⟨v, rfl, hT, hF⟩ := hx
          obtain ⟨n0, n1, rfl⟩ : ∃ n0 n1, q = [n0, n1] := by
            have := pa_len h4
            match q, this with
            | [n0, n1], _ => exact ⟨n0, n1, rfl⟩
          have q4 := pa_le h4 n0 (by simp)
          have q5 := pa_le h4 n1 (by simp)
          obtain ⟨g2, c2, rfl, hc⟩ := txs_at hT hF (by simp)
          have d0 := hc 0 n0 rfl
          have d1 := hc 1 n1 rfl
          have H4 : Hid _ := h4
          clear h4 HH hT hF hc
          go_upto_region 4 with (fail)
          by_cases t0 : tiE (sL n0) = 0
          · have I0 := fun W => toInt_yes n0 (by unfold maxLen; omega) t0 W
            by_cases t1 : tiE (sL n1) = 0
            · have I1 := fun W => toInt_yes n1 (by unfold maxLen; omega) t1 W
              have bk0 := back_int n0 t0
              have bk1 := back_int n1 t1
              have e : vfF s = some (⟨0, nS, nS, nS, nS, nS, [], beV (cut0 (sL n0)), beV (cut0 (sL n1)), nS⟩, r2) := by simp only [vfF, H1.out, H2.out, H3.out, H4.out, List.getD_cons_zero, List.getD_cons_succ, tiF, t0, t1, if_true, Option.bind_some]
              generalize beV (cut0 (sL n0)) = N0 at *
              generalize beV (cut0 (sL n1)) = N1 at *
              refine wp_region_relQ 16 (vfV g2 n0 n1 (fun v => v = nv N0) (fun v => v = nv N1) (nv N0) (nv N1) 0 0 [.int .u64 (lim N0 0), .int .u64 (lim N0 1), .int .u64 (lim N0 2), .int .u64 (lim N0 3), .int .u64 (lim N1 0), .int .u64 (lim N1 1), .int .u64 (lim N1 2), .int .u64 (lim N1 3)] ((⟨0, nS, nS, nS, nS, nS, [], N0, N1, nS⟩ : Mg).l nC) (.slice (some ⟨g2, 0, none⟩) 2 c2)) rfl (by kernel_rfl) (by kernel_rfl) (vfV.st _ _ _ _ _ _ _ _ _ _ _ _) ?_ ?_
              · intro i o ρ W hi ho hW hP hS
                have ci : i = 0 ∨ i = 1 ∨ i = 2 ∨ i = 3 ∨ i = 4 ∨ i = 5 ∨ i = 6 ∨ i = 7 ∨ i = 8 ∨ i = 9 ∨ i = 10 ∨ i = 11 ∨ i = 12 ∨ i = 13 ∨ i = 14 ∨ i = 15 := by omega
                have hc := hP.c
                have hf := hP.f
                have e0 := (hW.cell (p := ⟨g2, 0, none⟩) (block_lt_of_cell d0)).trans d0
                have e1 := (hW.cell (p := ⟨g2, 1, none⟩) (block_lt_of_cell d1)).trans d1
                rcases ci with rfl | rfl | rfl | rfl | rfl | rfl | rfl | rfl | rfl | rfl | rfl | rfl | rfl | rfl | rfl | rfl <;> cases ho
                · have h' : ρ (.tmp 4) = _ := hS 4 (by kernel_rfl)
                  exact .of (Stp.val (by simp [execOp, h', go_sem] <;> rfl) rfl)
                · have h' : ρ (.tmp 16) = _ := hS 16 (by kernel_rfl)
                  exact .of (Stp.val (by simp [execOp, h', hc, go_sem] <;> rfl) rfl)
                · have h' : ρ (.tmp 17) = _ := hS 17 (by kernel_rfl)
                  exact .of (Stp.val (by simp [execOp, h', e0, go_sem] <;> rfl) rfl)
                · have h' : ρ (.tmp 18) = _ := hS 18 (by kernel_rfl)
                  exact .of (Stp.call (f := 88) (args := #[.string n0]) (by simp [execOp, h', hf, go_sem] <;> rfl) (I0 W) (fun _ => rfl))
                · have h' : ρ (.tmp 19) = _ := hS 19 (by kernel_rfl)
                  exact .of (Stp.val (by simp [execOp, h', go_sem] <;> rfl) rfl)
                · have h' : ρ (.tmp 19) = _ := hS 19 (by kernel_rfl)
                  exact .of (Stp.val (by simp [execOp, h', go_sem] <;> rfl) rfl)
                · have h1 : ρ (.tmp 20) = _ := hS 20 (by kernel_rfl)
                  have h2 : ρ (.tmp 21) = _ := hS 21 (by kernel_rfl)
                  exact .of (Stp.call (f := 87) (args := #[nv N0, .int .i64 0]) (by simp [execOp, h1, h2, hf, go_sem] <;> rfl) (mustN_ok N0 W) (fun _ => rfl))
                · have h' : ρ (.tmp 4) = _ := hS 4 (by kernel_rfl)
                  exact .of (Stp.val (by simp [execOp, h', go_sem] <;> rfl) rfl)
                · have h' : ρ (.tmp 23) = _ := hS 23 (by kernel_rfl)
                  exact .of (Stp.val (by simp [execOp, h', hc, go_sem] <;> rfl) rfl)
                · have h' : ρ (.tmp 24) = _ := hS 24 (by kernel_rfl)
                  exact .of (Stp.val (by simp [execOp, h', e1, go_sem] <;> rfl) rfl)
                · have h' : ρ (.tmp 25) = _ := hS 25 (by kernel_rfl)
                  exact .of (Stp.call (f := 88) (args := #[.string n1]) (by simp [execOp, h', hf, go_sem] <;> rfl) (I1 W) (fun _ => rfl))
                · have h' : ρ (.tmp 26) = _ := hS 26 (by kernel_rfl)
                  exact .of (Stp.val (by simp [execOp, h', go_sem] <;> rfl) rfl)
                · have h' : ρ (.tmp 26) = _ := hS 26 (by kernel_rfl)
                  exact .of (Stp.val (by simp [execOp, h', go_sem] <;> rfl) rfl)
                · have h1 : ρ (.tmp 27) = _ := hS 27 (by kernel_rfl)
                  have h2 : ρ (.tmp 28) = _ := hS 28 (by kernel_rfl)
                  exact .of (Stp.call (f := 87) (args := #[nv N1, .int .i64 0]) (by simp [execOp, h1, h2, hf, go_sem] <;> rfl) (mustN_ok N1 W) (fun _ => rfl))
                · have h1 : ρ (.tmp 22) = _ := hS 22 (by kernel_rfl)
                  have h2 : ρ (.tmp 29) = _ := hS 29 (by kernel_rfl)
                  exact .of (Stp.val (by simp [execOp, h1, h2, go_sem] <;> rfl) ⟨by simp, rfl⟩)
                · have h1 : _ ∧ ρ (.tmp 30) = _ := hS 30 (by kernel_rfl)
                  exact .of (Stp.val (by simp [execOp, h1.2, go_sem] <;> rfl) rfl)
              intro z W hW hV
              have h15 : z 15 = .agg ((⟨0, nS, nS, nS, nS, nS, [], N0, N1, nS⟩ : Mg).l nC).toArray := hV 15 (by omega)
              have hC := (⟨0, nS, nS, nS, nS, nS, [], N0, N1, nS⟩ : Mg).cells nC rfl
              have HV : Hid (.agg ((⟨0, nS, nS, nS, nS, nS, [], N0, N1, nS⟩ : Mg).l nC).toArray = (⟨0, nS, nS, nS, nS, nS, [], N0, N1, nS⟩ : Mg).v nC) := (Mg.v_l _ _).symm
              have HX : Hid _ := e
              clear hV e I0 I1 d0 d1 bk0 bk1
              simp only [puts, List.take_succ_cons, List.take_zero, List.drop_succ_cons, List.drop_zero, Act.put, List.setIfInBounds_toArray, List.set_cons_succ, List.set_cons_zero, h15]
              generalize (⟨0, nS, nS, nS, nS, nS, [], N0, N1, nS⟩ : Mg).l nC = L at *
              have A7 := Arr.to' (n := 15) A6 hW
              have hU7 := hU6.trans (Below.upto p hW)
              have hR7 := hR6.to hW
              refine hC.wst tM A7 (by rfl) (.tmp 2) (.tmp 31) (by rfl) (by rfl) (by rfl) ?_
              refine wpList_nil ?_
              have A9 := hC.set A7
              have U9 := hU7.own (w.heap.size) (Nat.le_refl _) (Upto.sets w.heap.size W L 0)
              have R9 := hR7.sets pq L
              clear A6 A7 hU6 hU7 hR6 hR7 hW
              generalize W.setCells w.heap.size 0 L = W9 at *
              go_wp2_with fail
              refine bodyPost_ret (results_cell1 rfl _ rfl (hC.ld tM A9 0 (by omega) (fun j _ => by rw [Nat.zero_add]))) rfl ⟨U9, ?_⟩
              rw [HX.out]
              exact ⟨_, rfl, ⟨_, HV.out, Txs.nil _, Fsh.nil _⟩, R9⟩
            · have I1 := fun W => toInt_no n1 (by unfold maxLen; omega) t1 W
              have e : vfF s = none := by simp only [vfF, H1.out, H2.out, H3.out, H4.out, List.getD_cons_zero, List.getD_cons_succ, tiF, t0, t1, if_true, if_false, Option.bind_some, Option.bind_none]
              generalize beV (cut0 (sL n0)) = N0 at *
              generalize tiE (sL n1) = E1 at *
              refine wp_region_relQ 16 (vfV g2 n0 n1 (fun v => v = nv N0) (fun _ => False) (nv N0) (nz) 0 E1 [] [] (.slice (some ⟨g2, 0, none⟩) 2 c2)) rfl (by kernel_rfl) (by kernel_rfl) (vfV.st _ _ _ _ _ _ _ _ _ _ _ _) ?_ ?_
              · intro i o ρ W hi ho hW hP hS
                have ci : i = 0 ∨ i = 1 ∨ i = 2 ∨ i = 3 ∨ i = 4 ∨ i = 5 ∨ i = 6 ∨ i = 7 ∨ i = 8 ∨ i = 9 ∨ i = 10 ∨ i = 11 ∨ i = 12 ∨ i = 13 ∨ i = 14 ∨ i = 15 := by omega
                have hc := hP.c
                have hf := hP.f
                have e0 := (hW.cell (p := ⟨g2, 0, none⟩) (block_lt_of_cell d0)).trans d0
                have e1 := (hW.cell (p := ⟨g2, 1, none⟩) (block_lt_of_cell d1)).trans d1
                rcases ci with rfl | rfl | rfl | rfl | rfl | rfl | rfl | rfl | rfl | rfl | rfl | rfl | rfl | rfl | rfl | rfl <;> cases ho
                · have h' : ρ (.tmp 4) = _ := hS 4 (by kernel_rfl)
                  exact .of (Stp.val (by simp [execOp, h', go_sem] <;> rfl) rfl)
                · have h' : ρ (.tmp 16) = _ := hS 16 (by kernel_rfl)
                  exact .of (Stp.val (by simp [execOp, h', hc, go_sem] <;> rfl) rfl)
                · have h' : ρ (.tmp 17) = _ := hS 17 (by kernel_rfl)
                  exact .of (Stp.val (by simp [execOp, h', e0, go_sem] <;> rfl) rfl)
                · have h' : ρ (.tmp 18) = _ := hS 18 (by kernel_rfl)
                  exact .of (Stp.call (f := 88) (args := #[.string n0]) (by simp [execOp, h', hf, go_sem] <;> rfl) (I0 W) (fun _ => rfl))
                · have h' : ρ (.tmp 19) = _ := hS 19 (by kernel_rfl)
                  exact .of (Stp.val (by simp [execOp, h', go_sem] <;> rfl) rfl)
                · have h' : ρ (.tmp 19) = _ := hS 19 (by kernel_rfl)
                  exact .of (Stp.val (by simp [execOp, h', go_sem] <;> rfl) rfl)
                · have h1 : ρ (.tmp 20) = _ := hS 20 (by kernel_rfl)
                  have h2 : ρ (.tmp 21) = _ := hS 21 (by kernel_rfl)
                  exact .of (Stp.call (f := 87) (args := #[nv N0, .int .i64 0]) (by simp [execOp, h1, h2, hf, go_sem] <;> rfl) (mustN_ok N0 W) (fun _ => rfl))
                · have h' : ρ (.tmp 4) = _ := hS 4 (by kernel_rfl)
                  exact .of (Stp.val (by simp [execOp, h', go_sem] <;> rfl) rfl)
                · have h' : ρ (.tmp 23) = _ := hS 23 (by kernel_rfl)
                  exact .of (Stp.val (by simp [execOp, h', hc, go_sem] <;> rfl) rfl)
                · have h' : ρ (.tmp 24) = _ := hS 24 (by kernel_rfl)
                  exact .of (Stp.val (by simp [execOp, h', e1, go_sem] <;> rfl) rfl)
                · have h' : ρ (.tmp 25) = _ := hS 25 (by kernel_rfl)
                  exact .of (Stp.call (f := 88) (args := #[.string n1]) (by simp [execOp, h', hf, go_sem] <;> rfl) (I1 W) (fun _ => rfl))
                · have h' : ρ (.tmp 26) = _ := hS 26 (by kernel_rfl)
                  exact .of (Stp.val (by simp [execOp, h', go_sem] <;> rfl) rfl)
                · have h' : ρ (.tmp 26) = _ := hS 26 (by kernel_rfl)
                  exact .of (Stp.val (by simp [execOp, h', go_sem] <;> rfl) rfl)
                · have h1 : ρ (.tmp 27) = _ := hS 27 (by kernel_rfl)
                  have h2 : ρ (.tmp 28) = _ := hS 28 (by kernel_rfl)
                  exact StpQ.dies (f := 87) (args := #[nz, .int .i64 E1]) (by simp [execOp, h1, h2, hf, go_sem] <;> rfl) (mustN_no E1 t1 W) (fun w' hb a hd => ⟨hd, hU6.trans (Below.upto p (hW.trans (hb.mono hW.size))), by rw [e]; rfl⟩)
                · have h1 : False := hS 29 (by kernel_rfl)
                  exact h1.elim
                · have h1 : ([] : List Value) ≠ [] ∧ _ := hS 30 (by kernel_rfl)
                  exact (h1.1 rfl).elim
              intro z W hW hV
              exact (hV 13 (by omega) : False).elim
          · have I0 := fun W => toInt_no n0 (by unfold maxLen; omega) t0 W
            have e : vfF s = none := by simp only [vfF, H1.out, H2.out, H3.out, H4.out, List.getD_cons_zero, List.getD_cons_succ, tiF, t0, if_false, Option.bind_some, Option.bind_none]
            generalize tiE (sL n0) = E0 at *
            by_cases t1 : tiE (sL n1) = 0
            · have I1 := fun W => toInt_yes n1 (by unfold maxLen; omega) t1 W
              generalize beV (cut0 (sL n1)) = N1 at *
              refine wp_region_relQ 16 (vfV g2 n0 n1 (fun _ => False) (fun v => v = nv N1) (nz) (nv N1) E0 0 [] [] (.slice (some ⟨g2, 0, none⟩) 2 c2)) rfl (by kernel_rfl) (by kernel_rfl) (vfV.st _ _ _ _ _ _ _ _ _ _ _ _) ?_ ?_
              · intro i o ρ W hi ho hW hP hS
                have ci : i = 0 ∨ i = 1 ∨ i = 2 ∨ i = 3 ∨ i = 4 ∨ i = 5 ∨ i = 6 ∨ i = 7 ∨ i = 8 ∨ i = 9 ∨ i = 10 ∨ i = 11 ∨ i = 12 ∨ i = 13 ∨ i = 14 ∨ i = 15 := by omega
                have hc := hP.c
                have hf := hP.f
                have e0 := (hW.cell (p := ⟨g2, 0, none⟩) (block_lt_of_cell d0)).trans d0
                have e1 := (hW.cell (p := ⟨g2, 1, none⟩) (block_lt_of_cell d1)).trans d1
                rcases ci with rfl | rfl | rfl | rfl | rfl | rfl | rfl | rfl | rfl | rfl | rfl | rfl | rfl | rfl | rfl | rfl <;> cases ho
                · have h' : ρ (.tmp 4) = _ := hS 4 (by kernel_rfl)
                  exact .of (Stp.val (by simp [execOp, h', go_sem] <;> rfl) rfl)
                · have h' : ρ (.tmp 16) = _ := hS 16 (by kernel_rfl)
                  exact .of (Stp.val (by simp [execOp, h', hc, go_sem] <;> rfl) rfl)
                · have h' : ρ (.tmp 17) = _ := hS 17 (by kernel_rfl)
                  exact .of (Stp.val (by simp [execOp, h', e0, go_sem] <;> rfl) rfl)
                · have h' : ρ (.tmp 18) = _ := hS 18 (by kernel_rfl)
                  exact .of (Stp.call (f := 88) (args := #[.string n0]) (by simp [execOp, h', hf, go_sem] <;> rfl) (I0 W) (fun _ => rfl))
                · have h' : ρ (.tmp 19) = _ := hS 19 (by kernel_rfl)
                  exact .of (Stp.val (by simp [execOp, h', go_sem] <;> rfl) rfl)
                · have h' : ρ (.tmp 19) = _ := hS 19 (by kernel_rfl)
                  exact .of (Stp.val (by simp [execOp, h', go_sem] <;> rfl) rfl)
                · have h1 : ρ (.tmp 20) = _ := hS 20 (by kernel_rfl)
                  have h2 : ρ (.tmp 21) = _ := hS 21 (by kernel_rfl)
                  exact StpQ.dies (f := 87) (args := #[nz, .int .i64 E0]) (by simp [execOp, h1, h2, hf, go_sem] <;> rfl) (mustN_no E0 t0 W) (fun w' hb a hd => ⟨hd, hU6.trans (Below.upto p (hW.trans (hb.mono hW.size))), by rw [e]; rfl⟩)
                · have h' : ρ (.tmp 4) = _ := hS 4 (by kernel_rfl)
                  exact .of (Stp.val (by simp [execOp, h', go_sem] <;> rfl) rfl)
                · have h' : ρ (.tmp 23) = _ := hS 23 (by kernel_rfl)
                  exact .of (Stp.val (by simp [execOp, h', hc, go_sem] <;> rfl) rfl)
                · have h' : ρ (.tmp 24) = _ := hS 24 (by kernel_rfl)
                  exact .of (Stp.val (by simp [execOp, h', e1, go_sem] <;> rfl) rfl)
                · have h' : ρ (.tmp 25) = _ := hS 25 (by kernel_rfl)
                  exact .of (Stp.call (f := 88) (args := #[.string n1]) (by simp [execOp, h', hf, go_sem] <;> rfl) (I1 W) (fun _ => rfl))
                · have h' : ρ (.tmp 26) = _ := hS 26 (by kernel_rfl)
                  exact .of (Stp.val (by simp [execOp, h', go_sem] <;> rfl) rfl)
                · have h' : ρ (.tmp 26) = _ := hS 26 (by kernel_rfl)
                  exact .of (Stp.val (by simp [execOp, h', go_sem] <;> rfl) rfl)
                · have h1 : ρ (.tmp 27) = _ := hS 27 (by kernel_rfl)
                  have h2 : ρ (.tmp 28) = _ := hS 28 (by kernel_rfl)
                  exact .of (Stp.call (f := 87) (args := #[nv N1, .int .i64 0]) (by simp [execOp, h1, h2, hf, go_sem] <;> rfl) (mustN_ok N1 W) (fun _ => rfl))
                · have h1 : False := hS 22 (by kernel_rfl)
                  exact h1.elim
                · have h1 : ([] : List Value) ≠ [] ∧ _ := hS 30 (by kernel_rfl)
                  exact (h1.1 rfl).elim
              intro z W hW hV
              exact (hV 6 (by omega) : False).elim
            · have I1 := fun W => toInt_no n1 (by unfold maxLen; omega) t1 W
              generalize tiE (sL n1) = E1 at *
              refine wp_region_relQ 16 (vfV g2 n0 n1 (fun _ => False) (fun _ => False) (nz) (nz) E0 E1 [] [] (.slice (some ⟨g2, 0, none⟩) 2 c2)) rfl (by kernel_rfl) (by kernel_rfl) (vfV.st _ _ _ _ _ _ _ _ _ _ _ _) ?_ ?_
              · intro i o ρ W hi ho hW hP hS
                have ci : i = 0 ∨ i = 1 ∨ i = 2 ∨ i = 3 ∨ i = 4 ∨ i = 5 ∨ i = 6 ∨ i = 7 ∨ i = 8 ∨ i = 9 ∨ i = 10 ∨ i = 11 ∨ i = 12 ∨ i = 13 ∨ i = 14 ∨ i = 15 := by omega
                have hc := hP.c
                have hf := hP.f
                have e0 := (hW.cell (p := ⟨g2, 0, none⟩) (block_lt_of_cell d0)).trans d0
                have e1 := (hW.cell (p := ⟨g2, 1, none⟩) (block_lt_of_cell d1)).trans d1
                rcases ci with rfl | rfl | rfl | rfl | rfl | rfl | rfl | rfl | rfl | rfl | rfl | rfl | rfl | rfl | rfl | rfl <;> cases ho
                · have h' : ρ (.tmp 4) = _ := hS 4 (by kernel_rfl)
                  exact .of (Stp.val (by simp [execOp, h', go_sem] <;> rfl) rfl)
                · have h' : ρ (.tmp 16) = _ := hS 16 (by kernel_rfl)
                  exact .of (Stp.val (by simp [execOp, h', hc, go_sem] <;> rfl) rfl)
                · have h' : ρ (.tmp 17) = _ := hS 17 (by kernel_rfl)
                  exact .of (Stp.val (by simp [execOp, h', e0, go_sem] <;> rfl) rfl)
                · have h' : ρ (.tmp 18) = _ := hS 18 (by kernel_rfl)
                  exact .of (Stp.call (f := 88) (args := #[.string n0]) (by simp [execOp, h', hf, go_sem] <;> rfl) (I0 W) (fun _ => rfl))
                · have h' : ρ (.tmp 19) = _ := hS 19 (by kernel_rfl)
                  exact .of (Stp.val (by simp [execOp, h', go_sem] <;> rfl) rfl)
                · have h' : ρ (.tmp 19) = _ := hS 19 (by kernel_rfl)
                  exact .of (Stp.val (by simp [execOp, h', go_sem] <;> rfl) rfl)
                · have h1 : ρ (.tmp 20) = _ := hS 20 (by kernel_rfl)
                  have h2 : ρ (.tmp 21) = _ := hS 21 (by kernel_rfl)
                  exact StpQ.dies (f := 87) (args := #[nz, .int .i64 E0]) (by simp [execOp, h1, h2, hf, go_sem] <;> rfl) (mustN_no E0 t0 W) (fun w' hb a hd => ⟨hd, hU6.trans (Below.upto p (hW.trans (hb.mono hW.size))), by rw [e]; rfl⟩)
                · have h' : ρ (.tmp 4) = _ := hS 4 (by kernel_rfl)
                  exact .of (Stp.val (by simp [execOp, h', go_sem] <;> rfl) rfl)
                · have h' : ρ (.tmp 23) = _ := hS 23 (by kernel_rfl)
                  exact .of (Stp.val (by simp [execOp, h', hc, go_sem] <;> rfl) rfl)
                · have h' : ρ (.tmp 24) = _ := hS 24 (by kernel_rfl)
                  exact .of (Stp.val (by simp [execOp, h', e1, go_sem] <;> rfl) rfl)
                · have h' : ρ (.tmp 25) = _ := hS 25 (by kernel_rfl)
                  exact .of (Stp.call (f := 88) (args := #[.string n1]) (by simp [execOp, h', hf, go_sem] <;> rfl) (I1 W) (fun _ => rfl))
                · have h' : ρ (.tmp 26) = _ := hS 26 (by kernel_rfl)
                  exact .of (Stp.val (by simp [execOp, h', go_sem] <;> rfl) rfl)
                · have h' : ρ (.tmp 26) = _ := hS 26 (by kernel_rfl)
                  exact .of (Stp.val (by simp [execOp, h', go_sem] <;> rfl) rfl)
                · have h1 : ρ (.tmp 27) = _ := hS 27 (by kernel_rfl)
                  have h2 : ρ (.tmp 28) = _ := hS 28 (by kernel_rfl)
                  exact StpQ.dies (f := 87) (args := #[nz, .int .i64 E1]) (by simp [execOp, h1, h2, hf, go_sem] <;> rfl) (mustN_no E1 t1 W) (fun w' hb a hd => ⟨hd, hU6.trans (Below.upto p (hW.trans (hb.mono hW.size))), by rw [e]; rfl⟩)
                · have h1 : False := hS 22 (by kernel_rfl)
                  exact h1.elim
                · have h1 : ([] : List Value) ≠ [] ∧ _ := hS 30 (by kernel_rfl)
                  exact (h1.1 rfl).elim
              intro z W hW hV
              exact (hV 6 (by omega) : False).elim
end Go.Proofs.YtjdpeedghpblgaaGreatDoor
