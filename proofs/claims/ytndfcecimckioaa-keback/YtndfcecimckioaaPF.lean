/- The program: the iterator hands out a text's records. -/
import Derived.Test.YtndfcecimckioaaPE
import Derived.Test.YtndfcecimckioaaY7
set_option linter.all false
set_option maxRecDepth 100000
namespace Go.Proofs.Ytndfcecimckioaa
open Go.RowKit Go.Shelf Go.Sort
attribute [local go_sem] Oper.semAt_some
/-- What a round keeps: the text's box, and what is newer than what it knew, where it is cells. -/
def KpR (bx : Nat) (A0 A B : World) : Prop := ∀ b o, (b = bx ∨ A0.heap.size ≤ b) → A.heap[b]? = some o → o.isCells = true → B.heap[b]? = some o
theorem KpR.put {bx : Nat} (A0 A B : World) (l : Nat) (o o' : Obj) (hl : B.heap[l]? = some o) (ho : o.isCells = false) (h : KpR bx A0 A B) : KpR bx A0 A (B.putObj l o') := by
  intro b q h1 h2 h3
  have := h b q h1 h2 h3
  rw [World.putObj_heap_other (by
    intro e
    subst e
    rw [hl] at this
    cases this
    rw [ho] at h3
    cases h3)]
  exact this
theorem ksI_snoc (pre : List ItK) (x : ItK) : ksI (pre ++ [x]) = ksI pre ++ [x.1] := by unfold ksI; rw [List.map_append]; rfl
theorem tot_snoc (l : List Ke) (r : Ke) : tot (l ++ [r]) = tot l + 4 + r.s.size := by rw [tot_app]; show _ + (4 + r.s.size + 0) = _; omega
theorem Arr.of_block {W W' : World} {b n : Nat} {f : Nat → Value} (h : Arr W b (n + 1) f) (hk : ∀ o, W.heap[b]? = some o → o.isCells = true → W'.heap[b]? = some o) : Arr W' b (n + 1) f := by
  have c := (h 0 (by omega)).1
  have e : W'.heap[b]? = W.heap[b]? := by
    have lt := h.lt
    obtain ⟨o, ho⟩ : ∃ o, W.heap[b]? = some o := ⟨_, Array.getElem?_eq_getElem lt⟩
    cases o with
    | cells cs t fr => rw [ho]; exact hk _ ho rfl
    | _ => simp [World.cell?, ho] at c
  exact fun j hj => ⟨(World.cell?_of_block (a := ⟨b, j, none⟩) e).trans (h j hj).1, (World.frozen?_of_block (a := ⟨b, j, none⟩) e).trans (h j hj).2⟩
def badI (xs : List ItK) : Prop := ∃ x ∈ xs, x.2 ≠ 0
set_option maxHeartbeats 4000000 in
theorem recs_seq (s : ByteArray) (hs : s.size ≤ 281474976710656) (n bx : Nat) (hn : 1 ≤ n) (w0 : World) (hA : Arr w0 bx 1 (fun _ => .string s)) :
    SeqD Fence.wide n Try.prog 33 #[.pointer (some ⟨bx, 0, none⟩)] encK (KpR bx) (MkK s) badI (fun _ => True) w0 := by
  intro l J Jx W hW hJ hJx hY h0
  have hAW := hA.to' hW
  have hlx : bx < W.heap.size := hAW.lt
  have HY : Hid _ := hY
  clear hY hJx hA hW
  refine callsIn_of_wp Try.func33 rfl trivial ?_ rfl
  simp only [Try.ntmps33, List.size_toArray, List.length_cons, List.length_nil, Nat.reduceAdd, Nat.reduceSub, Array.replicate_succ, Array.replicate_zero, List.push_toArray, List.append_toArray, List.nil_append, List.cons_append]
  have hnot : ∀ (x : Bool) (w : World), (Op.unary .not (.bool x)).run Try.prog w = .ok (.bool (!x)) w := fun _ _ => rfl
  gi_wp2
  gi_loopw [3] (fun x wr => ∃ (q : Nat) (pre : List ItK), x = .int .i64 (q : Int) ∧ q ≤ s.size ∧ q ≤ 2048 ∧ Hid (q = tot (ksI pre)) ∧ Arr wr bx 1 (fun _ => .string s) ∧ J pre wr) (fun x _ => 2048 - (intOf x).toNat)
  case atStart => exact ⟨0, [], rfl, by omega, by omega, rfl, hAW, h0⟩
  case round =>
    clear h0 hAW hlx
    obtain ⟨q, pre, rfl, hq, hq2, hQ, hA, hJs⟩ := hrel
    have cb := hA.c 0 (by omega)
    have lx := hA.lt
    have NX := next_any s q hq hq2 hs wr
    have HM : Hid (MkK s pre (nxR s q, nxE s q)) := by show MkK _ _ _; refine ⟨?_, ?_, ?_, ?_⟩ <;> rw [← hQ.out] <;> first | exact hq | exact hq2 | rfl
    have HN : Hid (nxE s q = 0 → q + 4 + (nxR s q).s.size ≤ s.size ∧ q + 4 + (nxR s q).s.size ≤ 2048 ∧ (nxR s q).s.size ≤ 1024) := nx_sz s q
    generalize nxR s q = r at *
    generalize nxE s q = E at *
    have q0 : (0 : Int) ≤ (q : Int) := by omega
    have q1 : (q : Int) ≤ 2048 := by omega
    have CS := fun (h : r.s.size ≤ 1024) W => size_any r (by omega) W
    unfold keV at NX CS
    have HJ : Hid (J pre wr) := hJs
    clear hJs
    gi_wp2_with (refine ⟨trivial, ?_⟩; gi_at_call 34; refine (callsIn_wide.2 NX).mono ?_; rintro e w2 ⟨rfl, hb⟩; clear NX)
    have A3 := Arr.new w2 #[Value.bool r.c, .int .i64 r.k, .string r.s] 47 _ rfl _ 3 (keC_at r)
    have B3 := Bel.al hb (.cells #[.bool r.c, .int .i64 r.k, .string r.s] 47)
    have s3 := hb.size
    have s4 : (w2.alloc (.cells #[.bool r.c, .int .i64 r.k, .string r.s] 47)).heap.size = w2.heap.size + 1 := by simp
    obtain ⟨fn, tmps, assign, body, hy, hR⟩ := HY.out pre (r, E) wr (w2.alloc (.cells #[.bool r.c, .int .i64 r.k, .string r.s] 47)) HJ.out (gby B3) HM.out
    unfold encK keV at hy
    simp only at hy
    have hA3 := hA.to' B3
    clear hb HJ B3 hA cb
    generalize w2.alloc (.cells #[.bool r.c, .int .i64 r.k, .string r.s] 47) = w3 at *
    generalize w2.heap.size = b4 at *
    have c0 := A3.cv 0 (by omega) (.bool r.c) rfl
    have c1 := A3.cv 1 (by omega) (.int .i64 r.k) rfl
    have c2 := A3.cv 2 (by omega) (.string r.s) rfl
    rw [hy]
    gi_wp2
    refine hR.mono ?_
    clear c0 c1 c2 hy
    rintro e W3 (⟨rfl, hJ3, hk⟩ | ⟨rfl, hJx3⟩)
    · have A4 : Arr W3 b4 3 _ := Arr.of_block (n := 2) A3 (fun o h1 h2 => hk b4 o (.inr (by omega)) h1 h2)
      have A5 : Arr W3 bx 1 _ := Arr.of_block (n := 0) hA3 (fun o h1 h2 => hk bx o (.inl rfl) h1 h2)
      have c0 := A4.cv 0 (by omega) (.bool r.c) rfl
      have c1 := A4.cv 1 (by omega) (.int .i64 r.k) rfl
      have c2 := A4.cv 2 (by omega) (.string r.s) rfl
      have HJ3 : Hid (J (pre ++ [(r, E)]) W3) := hJ3
      clear hJ3 hk A3 A4 hA3 hR
      by_cases hE : E = 0
      · subst hE
        obtain ⟨z1, z2, z3⟩ := HN.out rfl
        have C1 := CS z3 W3
        clear CS
        gi_wp2_with (refine ⟨trivial, ?_⟩; gi_at_call 23; refine (callsIn_wide.2 C1).mono ?_; rintro e w5 ⟨rfl, hb5⟩; clear C1)
        have hJ5 := hJ _ W3 w5 none HJ3.out (gby hb5) (fun r e => by cases e)
        have hA5 := A5.to' hb5
        gi_wp2
        refine ⟨⟨q + 4 + r.s.size, pre ++ [(r, 0)], congrArg (Value.int .i64) (by omega), z1, z2, ?_, hA5, hJ5⟩, ?_⟩
        · show _ = _
          rw [ksI_snoc, tot_snoc, hQ.out]
        · simp [intOf]; omega
      · gi_wp2
        refine bodyPost_ret (results_none rfl _ _ _) rfl ?_
        exact ⟨⟨_, rfl⟩, .inl ⟨_, ⟨(r, E), by simp, hE⟩, HJ3.out⟩⟩
    · clear A3 hA3 hR
      gi_wp2
      refine bodyPost_ret (results_none rfl _ _ _) rfl ?_
      exact ⟨⟨_, rfl⟩, .inr ⟨_, trivial, hJx3⟩⟩
end Go.Proofs.Ytndfcecimckioaa
