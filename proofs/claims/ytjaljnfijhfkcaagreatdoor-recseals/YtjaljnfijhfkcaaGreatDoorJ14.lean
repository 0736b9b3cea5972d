/- Texts joined: E4, F3, E5. -/
import Derived.ProofKit
import Derived.OpenShut
import Derived.ShutString
import Derived.ChangeOld
import Derived.Below
import Derived.Laws.IdiomArrays
import Derived.Deep.Strs
import Derived.LaidMore
import Derived.Lay
import Derived.SevenTiedAt
import Derived.Stop.Joined
import Derived.SliceStrings
import Derived.ChangeSlices
import Derived.Test.YtjaljnfijhfkcaaGreatDoorJ13
import Derived.Test.YtjaljnfijhfkcaaGreatDoorJ11
/- The nonce of a direction: of the program. -/
set_option linter.all false
set_option maxRecDepth 100000
namespace Go.Proofs.YtjaljnfijhfkcaaGreatDoor
open Go.RowKit Go.Sort Lin
/-- A direction. -/
def sdV (key iv : ByteArray) (q : Int) : Value := .agg #[.string key, .string iv, .int .u64 q]
def sd3 (key iv : ByteArray) (q : Int) (j : Nat) : Value := if j = 0 then .string key else if j = 1 then .string iv else .int .u64 q
theorem sd3_at (key iv : ByteArray) (q : Int) (j : Nat) (hj : j < 3) : (#[.string key, .string iv, .int .u64 q] : Array Value)[j]? = some (sd3 key iv q j) := by
  have : j = 0 ∨ j = 1 ∨ j = 2 := by omega
  rcases this with rfl | rfl | rfl <;> rfl
/-- The i-th byte of a number, from the lowest on. -/
def qB (q : Int) (i : Nat) : By := ⟨(q / 2 ^ (8 * i) % 256).toNat, by omega⟩
theorem qB_is (q : Int) (i : Nat) : ((qB q i).val : Int) = q / 2 ^ (8 * i) % 256 := by unfold qB; simp; omega
/-- A row of which the last k bytes are crossed with a number's. -/
def noF (f : Nat → By) (q : Int) (k j : Nat) : By := if 12 - k ≤ j then xr (f j) (qB q (11 - j)) else f j
def noS (iv : ByteArray) (q : Int) : ByteArray := mkS ((List.range 12).map fun j => ((noF (bF iv) q 8 j).val : Int))
theorem noS_size (iv : ByteArray) (q : Int) : (noS iv q).size = 12 := by unfold noS; rw [mkS_size]; rfl
set_option maxHeartbeats 1000000 in
theorem Nonce_core (key iv T : ByteArray) (q : Int) (hk : key.size = 16) (hi : iv.size = 12) (q0 : 0 ≤ q) (q1 : q < 18446744073709551616) (hT : noS iv q = T) (w : World) :
    Calls Tryz.prog 8 #[sdV key iv q] w fun e w' => e = .returned (.tuple #[.string T, .int .i64 0]) ∧ Below w.heap.size w w' := by
  unfold sdV
  have k16 : (key.size : Int) = 16 := by omega
  have i12 : (iv.size : Int) = 12 := by omega
  go_enter Tryz.func8, Tryz.ntmps8
  obtain ⟨cap, w2, hcv, A, hg, B2⟩ := conv_row (w.alloc (.cells #[.string key, .string iv, .int .u64 q] 24)) iv
  have A0 := (Arr.new w _ 24 _ rfl _ 3 (sd3_at key iv q)).to' B2
  replace B2 : Below w.heap.size w w2 := Bel.call (by go_grown) B2
  rw [World.size_alloc] at hcv A hg
  rw [hi] at A
  go_wp2_with fail
  clear hcv
  have hgw : ∃ g, w.heap.size + 1 = g := ⟨_, rfl⟩
  obtain ⟨g, eg⟩ := hgw
  rw [eg] at A hg ⊢
  have wg : w.heap.size < g := by omega
  clear eg
  generalize hb0 : w.heap.size = b at *
  have HB0 : Hid (w.heap.size = b) := hb0
  clear hb0
  go_loopw [19] (fun i wr => ∃ k : Nat, k ≤ 8 ∧ i = .int .i64 k ∧ Below b w wr ∧ g < wr.heap.size ∧ Arr wr b 3 (sd3 key iv q) ∧ Arr wr g 12 (bc (noF (bF iv) q k))) (fun i _ => 8 - (intOf i).toNat)
  case atStart => exact ⟨0, by omega, rfl, B2, hg, A0, A.congr fun j _ => by unfold bc noF; rw [if_neg (by omega)]⟩
  case round =>
    clear A hg B2 A0
    obtain ⟨k, hk, rfl, hB, hg, A0, A⟩ := hrel
    by_cases hlt : k < 8
    · have k0 : (0 : Int) ≤ (k : Int) := by omega
      have k1 : (k : Int) < 8 := by omega
      obtain ⟨m, hm⟩ : ∃ m : Nat, 11 - k = m := ⟨_, rfl⟩
      have m0 : (11 : Int) - (k : Int) = (m : Int) := by omega
      have m1 : (m : Int) ≤ 11 := by omega
      have m2 : m < 12 := by omega
      have HM : Hid (11 - k = m) := hm
      clear hm
      have r0 := fun ds os => cell_regrown (A.cv m m2 (.int .u8 ((bF iv m).val : Int)) (by unfold bc noF; rw [if_neg (by have := HM.out; omega)])) ds os
      have r1 := fun ds os => cell_regrown (A0.cv 2 (by omega) (.int .u64 q) rfl) ds os
      have X : bits .xor .u8 ((bF iv m).val : Int) (q / 2 ^ (8 * k) % 256) = ((xr (bF iv m) (qB q k)).val : Int) := by rw [← qB_is]; exact xr8 _ _
      have HS : Hid (∀ j, j < 12 → (if j = m then Value.int .u8 ((xr (bF iv m) (qB q k)).val : Int) else bc (noF (bF iv) q k) j) = bc (noF (bF iv) q (k + 1)) j) := by
        show ∀ j, j < 12 → _
        intro j hj
        have hm := HM.out
        unfold bc noF
        by_cases e : j = m
        · subst e; rw [if_pos rfl, if_pos (by omega), show 11 - j = k by omega]
        · rw [if_neg e]
          by_cases e2 : 12 - k ≤ j
          · rw [if_pos e2, if_pos (by omega)]
          · rw [if_neg e2, if_neg (by omega)]
      generalize xr (bF iv m) (qB q k) = c at *
      go_wp2_with fail
      refine wp_region_below_tail 13 (by kernel_rfl) (by kernel_rfl) ?_
      simp only [List.take_succ_cons, List.take_zero, List.drop_succ_cons, List.drop_zero]
      repeat (go_big_quiet_step (fail))
      refine wpQuiet_nil ?_
      intro w3 hw'
      obtain ⟨⟨dq, osq⟩, hw''⟩ := hw'
      have hb := below_of hw''
      clear hw'' r0 r1 X
      have A3 := A.below hb hg
      have A03 := A0.to' hb
      have hB3 := hB.trans (hb.mono (by omega))
      have hg3 : g < w3.heap.size := Nat.lt_of_lt_of_le hg hb.size
      clear A A0 hB hb
      have c0 := A3.c m m2
      have z0 := A3.z m m2
      go_wp2_with fail
      exact ⟨⟨k + 1, by omega, by go_num, hB3.setCell (p := ⟨g, m, none⟩) (by show b ≤ g; omega) _, by rw [size_set]; exact hg3, A03.other (by omega) _, (A3.set m m2 _).congr HS.out⟩, by simp [intOf]; omega⟩
    · have e : k = 8 := by omega
      subst e
      have cv := convC wr g 12 cap ((List.range 12).map fun j => ((noF (bF iv) q 8 j).val : Int)) rfl (by
        intro j v hv
        rw [Addr.add_mid, Nat.zero_add]
        have hj : j < 12 := by have := (List.getElem?_eq_some_iff.1 hv).1; simpa using this
        rw [A.c j hj, ← hv]
        simp [hj, bc])
      rw [show mkS ((List.range 12).map fun j => ((noF (bF iv) q 8 j).val : Int)) = T from hT] at cv
      clear A
      rw [← HB0.out] at hB
      go_wp2_with fail
      refine bodyPost_ret (v := .tuple #[.string T, .int .i64 0]) (by simp [results, Tryz.results8, go_sem]) rfl ⟨rfl, hB⟩
/-- What is wrong with a direction; its nonce. -/
def noE (key iv : ByteArray) : Int := if key.size = 16 ∧ iv.size = 12 then 0 else 10
def noR (key iv : ByteArray) (q : Int) : ByteArray := if noE key iv = 0 then noS iv q else ⟨#[]⟩
set_option maxHeartbeats 1000000 in
theorem Nonce_no (key iv : ByteArray) (q : Int) (h : ¬ (key.size = 16 ∧ iv.size = 12)) (w : World) :
    Calls Tryz.prog 8 #[sdV key iv q] w fun e w' => e = .returned (.tuple #[.string ⟨#[]⟩, .int .i64 10]) ∧ Below w.heap.size w w' := by
  unfold sdV
  by_cases h1 : key.size = 16
  · have k16 : (key.size : Int) = 16 := by omega
    have i12 : ¬ (iv.size : Int) = 12 := by omega
    clear h h1
    go_enter Tryz.func8, Tryz.ntmps8
    go_wp2_with fail
    refine bodyPost_ret (v := .tuple #[.string ⟨#[]⟩, .int .i64 10]) (by simp [results, Tryz.results8, go_sem]) rfl ⟨rfl, by go_grown⟩
  · have k16 : ¬ (key.size : Int) = 16 := by omega
    clear h h1
    go_enter Tryz.func8, Tryz.ntmps8
    go_wp2_with fail
    refine bodyPost_ret (v := .tuple #[.string ⟨#[]⟩, .int .i64 10]) (by simp [results, Tryz.results8, go_sem]) rfl ⟨rfl, by go_grown⟩
theorem Nonce_any (key iv : ByteArray) (q : Int) (q0 : 0 ≤ q) (q1 : q < 18446744073709551616) (w : World) :
    Calls Tryz.prog 8 #[sdV key iv q] w fun e w' => e = .returned (.tuple #[.string (noR key iv q), .int .i64 (noE key iv)]) ∧ Below w.heap.size w w' := by
  unfold noR
  by_cases h : key.size = 16 ∧ iv.size = 12
  · have e : noE key iv = 0 := by unfold noE; rw [if_pos h]
    rw [e, if_pos rfl]
    exact Nonce_core key iv _ q h.1 h.2 q0 q1 rfl w
  · have e : noE key iv = 10 := by unfold noE; rw [if_neg h]
    rw [e, if_neg (by decide)]
    exact Nonce_no key iv q h w
end Go.Proofs.YtjaljnfijhfkcaaGreatDoor
/- Arguments opened: directions, records, numbers. -/
set_option linter.all false
namespace Go.Proofs.YtjaljnfijhfkcaaGreatDoor
open Go.ChangeShapes Go.WideShapes Go.ChangeAt Go.RowKit
open Go.ChangeMaps (open_string shut_string)
theorem own : ownKnob Tryz.prog.godebug = none := by kernel_rfl
theorem laidOut : laidOutB Tryz.prog = true := by kernel_rfl
theorem clR : Tryz.prog.cellsOf 26 = 2 := by kernel_rfl
theorem clS : Tryz.prog.cellsOf 24 = 3 := by kernel_rfl
theorem cl3 : Tryz.prog.cellsOf 3 = 1 := by kernel_rfl
theorem cl9 : Tryz.prog.cellsOf 9 = 1 := by kernel_rfl
theorem clU : Tryz.prog.cellsOf 22 = 1 := by kernel_rfl
theorem list2 {α : Type} (l : List α) (h : (⟨l⟩ : Array α).size = 2) : ∃ a b, l = [a, b] := by
  match l, h with
  | [a, b], _ => exact ⟨a, b, rfl⟩
theorem list3 {α : Type} (l : List α) (h : (⟨l⟩ : Array α).size = 3) : ∃ a b c, l = [a, b, c] := by
  match l, h with
  | [a, b, c], _ => exact ⟨a, b, c, rfl⟩
theorem bounds64 {n : Int} (h : (Lit.int .u64 n).wf = true) : 0 ≤ n ∧ n < 18446744073709551616 := by
  simp only [Lit.wf, IntKind.min, IntKind.max, IntKind.signed, IntKind.bits, Bool.and_eq_true, decide_eq_true_eq] at h
  simp at h
  omega
set_option maxRecDepth 100000 in
theorem open_rec {H : Type} {enc : TypeId × Value → H} {W : World} {base : Nat} {v : Value} {d : DataW H} {p : List MemPlace}
    (hv : Value.okWide Tryz.prog W .any base 26 v) (h : DataW.Trod enc Tryz.prog W 0 (fun _ => true) true 26 v d p) : ∃ (t : Int) (b : ByteArray), b.size ≤ maxLen ∧ v = rcV t b := by
  obtain ⟨cs, rfl, hsz, _⟩ : ∃ cs, v = .agg cs ∧ cs.size = Tryz.prog.cellsOf 26 ∧ Row.okWide Tryz.prog W .any base 26 cs := by
    simpa [Value.okWide, Tryz.underlying26] using hv
  rw [clR] at hsz
  obtain ⟨l⟩ := cs
  obtain ⟨c0, c1, rfl⟩ := list2 l hsz
  obtain ⟨fuel, hf⟩ := h
  obtain ⟨y0, y1, m, hx, hlen, h0, h1⟩ := Go.ChangeShapes.trod_struct2 Tryz.underlying26 hf
  simp only [cl3, cl9, List.drop_zero, List.drop_succ_cons, List.take_succ_cons, List.take_zero] at h0 h1
  obtain ⟨n, e0, _, hw⟩ := DataW.trod_int Tryz.underlying3 h0
  obtain ⟨s, e1, _, hs⟩ := DataW.trod_string Tryz.underlying9 h1
  have e0' : [c0] = [Value.int .i64 n] := e0
  have e1' : [c1] = [Value.string s] := e1
  injection e0' with f0 _
  injection e1' with f1 _
  subst f0 f1
  exact ⟨n, s, hs, rfl⟩
set_option maxRecDepth 100000 in
theorem open_side {H : Type} {enc : TypeId × Value → H} {W : World} {base : Nat} {v : Value} {d : DataW H} {p : List MemPlace}
    (hv : Value.okWide Tryz.prog W .any base 24 v) (h : DataW.Trod enc Tryz.prog W 0 (fun _ => true) true 24 v d p) : ∃ (k i : ByteArray) (n : Int), 0 ≤ n ∧ n < 18446744073709551616 ∧ v = sdV k i n := by
  obtain ⟨cs, rfl, hsz, _⟩ : ∃ cs, v = .agg cs ∧ cs.size = Tryz.prog.cellsOf 24 ∧ Row.okWide Tryz.prog W .any base 24 cs := by
    simpa [Value.okWide, Tryz.underlying24] using hv
  rw [clS] at hsz
  obtain ⟨l⟩ := cs
  obtain ⟨c0, c1, c2, rfl⟩ := list3 l hsz
  obtain ⟨fuel, hf⟩ := h
  obtain ⟨y0, y1, y2, m, hx, hlen, h0, h1, h2⟩ := Go.Deep.trod_struct3 Tryz.underlying24 hf
  simp only [clU, cl9, List.drop_zero, List.drop_succ_cons, List.take_succ_cons, List.take_zero] at h0 h1 h2
  obtain ⟨s, e0, _, hs⟩ := DataW.trod_string Tryz.underlying9 h0
  obtain ⟨t, e1, _, ht⟩ := DataW.trod_string Tryz.underlying9 h1
  obtain ⟨n, e2, _, hw⟩ := DataW.trod_int Tryz.underlying22 h2
  have e0' : [c0] = [Value.string s] := e0
  have e1' : [c1] = [Value.string t] := e1
  have e2' : [c2] = [Value.int .u64 n] := e2
  injection e0' with f0 _
  injection e1' with f1 _
  injection e2' with f2 _
  subst f0 f1 f2
  have b := bounds64 hw
  exact ⟨s, t, n, b.1, b.2, rfl⟩
end Go.Proofs.YtjaljnfijhfkcaaGreatDoor
/- Directions at work: their count, their side, their nonce: of the program. -/
set_option linter.all false
set_option maxRecDepth 100000
namespace Go.Proofs.YtjaljnfijhfkcaaGreatDoor
open Go.RowKit Go.Sort Lin
theorem Store_any (d : Nat) (q : Int) (u : Value) (w : World) (hc : w.cell? ⟨d, 2, none⟩ = some u) (hz : w.frozen? ⟨d, 2, none⟩ = false) :
    Calls Tryz.prog 33 #[.pointer (some ⟨d, 2, none⟩), .int .u64 q] w fun e w' => e = .returned (.tuple #[]) ∧ w' = w.setCell ⟨d, 2, none⟩ (.int .u64 q) := by
  have hst := run_call_store (P := Tryz.prog) Tryz.func52 (by kernel_rfl) (by kernel_rfl) (by kernel_rfl) (by kernel_rfl) (k := .u64) (y := q) hc hz
  go_enter Tryz.func33, Tryz.ntmps33
  go_wp2
  go_end0
  exact ⟨rfl, rfl⟩
theorem Load_any (d : Nat) (q : Int) (w : World) (hc : w.cell? ⟨d, 2, none⟩ = some (.int .u64 q)) :
    Calls Tryz.prog 57 #[.pointer (some ⟨d, 2, none⟩)] w fun e w' => e = .returned (.int .u64 q) ∧ w' = w := by
  have hl := run_call_load (P := Tryz.prog) Tryz.func81 (by kernel_rfl) (by kernel_rfl) (by kernel_rfl) .u64 (by kernel_rfl) (w := w) (a := ⟨d, 2, none⟩) (x := q) hc
  go_enter Tryz.func57, Tryz.ntmps57
  go_wp2
  go_ret
  exact ⟨rfl, rfl⟩
theorem Add_any (d : Nat) (q : Int) (q0 : 0 ≤ q) (q1 : q < 18446744073709551615) (w : World) (hc : w.cell? ⟨d, 2, none⟩ = some (.int .u64 q)) (hz : w.frozen? ⟨d, 2, none⟩ = false) :
    Calls Tryz.prog 43 #[.pointer (some ⟨d, 2, none⟩), .int .u64 1] w fun e w' => e = .returned (.int .u64 (q + 1)) ∧ w' = w.setCell ⟨d, 2, none⟩ (.int .u64 (q + 1)) := by
  have hadd := run_call_add (P := Tryz.prog) Tryz.func63 (by kernel_rfl) (by kernel_rfl) (by kernel_rfl) .u64 (by kernel_rfl) (y := 1) (s := q + 1) hc hz (by simp [go_sem, IntKind.wrap_u64]; omega)
  go_enter Tryz.func43, Tryz.ntmps43
  go_wp2
  go_ret
  exact ⟨rfl, rfl⟩
/-- A side put into a block. -/
def ssd (w : World) (b : Nat) (key iv : ByteArray) (q : Int) : World := ((w.setCell ⟨b, 0, none⟩ (.string key)).setCell ⟨b, 1, none⟩ (.string iv)).setCell ⟨b, 2, none⟩ (.int .u64 q)
theorem Arr.ssd {w : World} {b : Nat} {f : Nat → Value} (h : Arr w b 3 f) (key iv : ByteArray) (q : Int) : Arr (ssd w b key iv q) b 3 (sd3 key iv q) :=
  (((h.set 0 (by omega) _).set 1 (by omega) _).set 2 (by omega) _).congr (by
    intro j hj
    have : j = 0 ∨ j = 1 ∨ j = 2 := by omega
    rcases this with rfl | rfl | rfl <;> simp [sd3])
theorem Arr.ssdo {w : World} {b b' n : Nat} {f : Nat → Value} (h : Arr w b n f) (hne : b' ≠ b) (key iv : ByteArray) (q : Int) : Arr (Go.Proofs.YtjaljnfijhfkcaaGreatDoor.ssd w b' key iv q) b n f := ((h.other hne _).other hne _).other hne _
theorem Bel.ssd {w W : World} {B : Nat} (h : Below B w W) {b : Nat} (hle : B ≤ b) (key iv : ByteArray) (q : Int) : Below B w (Go.Proofs.YtjaljnfijhfkcaaGreatDoor.ssd W b key iv q) := ((h.setCell (p := ⟨b, 0, none⟩) hle _).setCell (p := ⟨b, 1, none⟩) hle _).setCell (p := ⟨b, 2, none⟩) hle _
theorem Arr.sd {w : World} {b : Nat} {key iv : ByteArray} {q : Int} (h : Arr w b 3 (sd3 key iv q)) : w.cell? ⟨b, 0, none⟩ = some (.string key) ∧ w.cell? ⟨b, 1, none⟩ = some (.string iv) ∧ w.cell? ⟨b, 2, none⟩ = some (.int .u64 q) :=
  ⟨h.c 0 (by omega), h.c 1 (by omega), h.c 2 (by omega)⟩
set_option maxHeartbeats 1000000 in
theorem side_any (d : Nat) (key iv : ByteArray) (x q : Int) (w : World) (A : Arr w d 3 (sd3 key iv x)) :
    Calls Tryz.prog 42 #[.pointer (some ⟨d, 0, none⟩), .int .u64 q] w fun e w' => e = .returned (sdV key iv q) ∧ Below w.heap.size w w' := by
  go_enter Tryz.func42, Tryz.ntmps42
  go_wp2_with fail
  have A0 : Arr _ d 3 _ := A.al' (n := 2) (.cells #[.string ⟨#[]⟩, .string ⟨#[]⟩, .int .u64 0] 24)
  have A1 := Arr.new w _ 24 _ rfl _ 3 (sd3_at ⟨#[]⟩ ⟨#[]⟩ 0)
  have B0 : Below w.heap.size w (w.alloc (.cells #[.string ⟨#[]⟩, .string ⟨#[]⟩, .int .u64 0] 24)) := by go_grown
  generalize w.alloc (.cells #[.string ⟨#[]⟩, .string ⟨#[]⟩, .int .u64 0] 24) = W at *
  have r0 := fun ds os => cell_regrown (A0.cv 0 (by omega) (.string key) rfl) ds os
  have r1 := fun ds os => cell_regrown (A0.cv 1 (by omega) (.string iv) rfl) ds os
  refine wp_region_below_tail 10 (by kernel_rfl) (by kernel_rfl) ?_
  simp only [List.take_succ_cons, List.take_zero, List.drop_succ_cons, List.drop_zero]
  repeat (go_big_quiet_step (fail))
  refine wpQuiet_nil ?_
  intro w1 hw'
  obtain ⟨⟨dq, osq⟩, hw''⟩ := hw'
  have hb1 := below_of hw''
  clear hw'' r0 r1
  have A2 : Arr _ _ 3 _ := A1.to' (n := 2) hb1
  have B1 := Bel.call B0 hb1
  clear A0 A1 B0 hb1 A
  have c := A2.c
  have z := A2.z
  obtain ⟨e0, e1, e2⟩ := (A2.ssd key iv q).sd
  unfold ssd at e0 e1 e2
  go_wp2_with fail
  refine bodyPost_ret (v := sdV key iv q) (by simp [sdV, results, Tryz.results42, go_sem, e0, e1, e2]) rfl ⟨rfl, Bel.ssd B1 (Nat.le_refl _) key iv q⟩
end Go.Proofs.YtjaljnfijhfkcaaGreatDoor
