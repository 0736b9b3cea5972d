/- What num.bigBytes answers: a number's 32 bytes, the highest first. -/
import Derived.Test.YtpigofooblmdhaaB1
import Derived.Test.YtpigofooblmdhaaM3
import Derived.Test.YtpigofooblmdhaaN4
import Derived.Deep.MidRow
import Derived.Deep.Cut
set_option linter.all false
namespace Go.Proofs.Ytpigofooblmdhaa
open Go.RowKit
/-- The i-th byte, from the highest on. -/
def byt (N : Int) (i : Nat) : Int := N / 2 ^ (8 * (31 - i)) % 256
theorem byt_bd (N : Int) (i : Nat) : 0 ≤ byt N i ∧ byt N i < 256 := by unfold byt; omega
theorem byt_win (N : Int) (i : Nat) (hi : i < 32) : IntKind.u8.wrap (win N (8 * (31 - (i : Int)))) = byt N i := by
  rw [IntKind.wrap_u8]
  unfold win byt
  rw [if_pos (by omega)]
  have e : (8 * (31 - (i : Int))).toNat = 8 * (31 - i) := by omega
  rw [e]; omega
def bytsL (N : Int) : List Value := (List.range 32).map fun j => .int .u8 (byt N j)
theorem bytsL_len (N : Int) : (bytsL N).length = 32 := by simp [bytsL]
theorem bytsL_at (N : Int) (j : Nat) (hj : j < 32) : (bytsL N)[j]? = some (.int .u8 (byt N j)) := by simp [bytsL, hj]
theorem Arr.range {w : World} {b n : Nat} {f : Nat → Value} (h : Arr w b n f) (cs : List Value) (hl : cs.length = n) (hc : ∀ j, j < n → cs[j]? = some (f j)) : w.rangeAt b 0 cs := fun j v hv => by
  have hj : j < n := by rw [← hl]; exact (List.getElem?_eq_some_iff.1 hv).1
  rw [Nat.zero_add, (h j hj).1, ← hc j hj]; exact hv
theorem Arr.there {w : World} {b n : Nat} {f : Nat → Value} (h : Arr w b n f) : w.there b 0 n := fun j hj => by
  rw [Nat.zero_add]
  exact ⟨by rw [(h j hj).1]; rfl, (h j hj).2⟩
theorem Arr.of_range {w : World} {b n : Nat} {f : Nat → Value} {cs : List Value} (h : w.rangeAt b 0 cs) (hc : ∀ j, j < n → cs[j]? = some (f j)) (z : ∀ j, j < n → w.frozen? ⟨b, j, none⟩ = false) : Arr w b n f := fun j hj => by
  have := h j _ (hc j hj)
  rw [Nat.zero_add] at this
  exact ⟨this, z j hj⟩
theorem Try.info57 : (Try.prog.info? 57).map (·.size) = some 32 := by kernel_rfl
theorem bytsL_one (N : Int) : ∀ v ∈ bytsL N, v.oneCell' = true := by
  intro v hv
  simp only [bytsL, List.mem_map] at hv
  obtain ⟨j, _, rfl⟩ := hv
  rfl
theorem zeros32 (j : Nat) (hj : j < 32) : (List.replicate 32 (Value.int .u8 0)).toArray[j]? = some (.int .u8 0) := by
  rw [List.getElem?_toArray, List.getElem?_replicate, if_pos hj]
theorem below_setCells {B : Nat} {a w : World} (h : Below B a w) {b : Nat} (hb : B ≤ b) : ∀ (vs : List Value) (o : Nat), Below B a (w.setCells b o vs) := by
  intro vs
  induction vs generalizing w with
  | nil => intro o; exact h
  | cons v r ih => intro o; rw [World.setCells]; exact ih (h.setCell hb _) (o + 1)
theorem results_cell1 {P : Program} {fn : Func} {p : Tmp} {ty : TypeId} {a : Addr} {v : Value} {w : World} (h : fn.results = #[.cell p ty]) (tmps : Array Value) (hp : tmps.getD p undef = .pointer (some a)) (hl : (loadVar ty a).run P w = .ok v w) :
    (results fn tmps).run P w = .ok v w := by
  have hp' : tmps[p]?.getD undef = .pointer (some a) := by simpa using hp
  simp only [results, h]
  simp [Sem.run_bind, hp', asAddr, hl]
set_option maxHeartbeats 2000000 in
theorem bigBytes_core (N : Int) (hN : 0 ≤ N) (hN' : N < top256) (L : List Value) (hlen : L.length = 32) (hat : ∀ j, j < 32 → L[j]? = some (.int .u8 (byt N j))) (hone : ∀ v ∈ L, v.oneCell' = true) (w : World) :
    Calls Try.prog 55 #[nv N] w fun e w' => e = .returned (.agg L.toArray) ∧ Below w.heap.size w w' := by
  go_enter Try.func55, Try.ntmps55
  go_wp2_with fail
  go_loopw [5] (fun i wr => ∃ k : Nat, k ≤ 32 ∧ i = .int .i64 k ∧ Below w.heap.size w wr ∧ w.heap.size + 1 + 1 < wr.heap.size ∧
      Arr wr w.heap.size 4 (fun j => .int .u64 (lim N j)) ∧ Arr wr (w.heap.size + 1) 32 (fun _ => .int .u8 0) ∧
      Arr wr (w.heap.size + 1 + 1) 32 (fun j => .int .u8 (if j < k then byt N j else 0)))
    (fun i _ => 32 - (intOf i).toNat)
  case atStart =>
    refine ⟨0, by omega, rfl, by go_grown, by go_size, ?_, ?_, ?_⟩
    · refine ((Arr.new _ _ _ _ rfl _ 4 ?_).alloc (by go_size) _).alloc (by go_size) _
      intro j hj
      have : j = 0 ∨ j = 1 ∨ j = 2 ∨ j = 3 := by omega
      rcases this with rfl | rfl | rfl | rfl <;> rfl
    · exact (Arr.new _ _ _ _ (by simp) _ 32 zeros32).alloc (by go_size) _
    · refine Arr.new _ _ _ _ (by simp) _ 32 ?_
      intro j hj
      rw [if_neg (by omega)]
      exact zeros32 j hj
  case round =>
    obtain ⟨k, hk, rfl, hB, hz, A0, A1, A2⟩ := hrel
    have c0 := A0.c
    by_cases hlt : k < 32
    · have k0 : (0 : Int) ≤ (k : Int) := by omega
      have k8 : (k : Int) < 32 := by omega
      have W := fun u => window_any N (8 * (31 - (k : Int))) hN hN' (by omega) (by omega) u
      have bw := byt_win N k hlt
      clear hat hone hlen
      go_wp2_with (go_at_call 81; refine (W _).mono ?_; rintro e w1 ⟨rfl, hb⟩; have A0' := A0.below hb (by omega); have A1' := A1.below hb (by omega); have A2' := A2.below hb hz; have z2 := A2'.z k hlt; have c2 := A2'.c k hlt)
      refine ⟨⟨k + 1, by omega, by go_num, (hB.trans (hb.mono hB.size)).setCell (by show _ ≤ w.heap.size + 1 + 1; omega) _, by rw [size_set]; have := hb.size; omega, A0'.other (by omega) _, A1'.other (by omega) _, ?_⟩, by simp [intOf]; omega⟩
      refine (A2'.set k hlt _).congr ?_
      intro j hj
      by_cases e : j = k
      · subst e; simp
      · simp only [if_neg e]
        by_cases e2 : j < k
        · rw [if_pos e2, if_pos (by omega)]
        · rw [if_neg e2, if_neg (by omega)]
    · have k8 : k = 32 := by omega
      subst k8
      have R2 : wr.rangeAt (w.heap.size + 1 + 1) 0 L := A2.range _ hlen (by intro j hj; rw [if_pos hj]; exact hat j hj)
      have T1 := A1.there
      have sz : L.toArray.size = 32 := by rw [List.size_toArray]; exact hlen
      have h58 : (Try.prog.info? 57).map (·.size) = some L.length := by rw [hlen]; exact Try.info57
      have h58' : (Try.prog.info? 57).map (·.size) = some L.toArray.size := by rw [sz]; exact Try.info57
      have T1' : wr.there (w.heap.size + 1) 0 L.toArray.size := by rw [sz]; exact T1
      have one := all_oneCell_toArray hone
      have R1 : (wr.setCells (w.heap.size + 1) 0 L).rangeAt (w.heap.size + 1) 0 L := World.rangeAt_setCells_same wr _ 0 _ (by rw [hlen]; exact T1)
      have lv := run_loadVar_mid (P := Try.prog) (wr.setCells (w.heap.size + 1) 0 L) (w.heap.size + 1) 0 57 L _ R1 Try.underlying57 rfl h58
      have LV : Hid _ := lv
      have HR2 : Hid _ := R2
      have H58 : Hid _ := h58
      have H58' : Hid _ := h58'
      have HT1 : Hid _ := T1'
      have HO : Hid _ := one
      clear A0 A1 A2 c0 hk T1 R1 lv sz R2 h58 h58' T1' one hat hone hlen
      go_upto_region 7 with (fail)
      refine wp_region_list ?_
      refine wpList_load_mid (by rfl) 57 (.tmp 3) (by rfl) _ _ (by rfl) L _ HR2.out Try.underlying57 rfl H58.out ?_
      refine wpList_store_mid (by rfl) 57 (.tmp 2) (.tmp 17) (by rfl) _ _ _ (by rfl) (by rfl) HT1.out H58'.out HO.out ?_
      refine wpList_nil ?_
      have lv := LV.out
      clear HR2 H58 H58' HT1 HO LV
      go_wp2_with fail
      refine bodyPost_ret (v := .agg L.toArray) (results_cell1 Try.results55 _ (by rfl) lv) rfl ⟨rfl, ?_⟩
      exact below_setCells hB (by omega) _ _
theorem bigBytes_any (N : Int) (hN : 0 ≤ N) (hN' : N < top256) (w : World) :
    Calls Try.prog 55 #[nv N] w fun e w' => e = .returned (.agg (bytsL N).toArray) ∧ Below w.heap.size w w' :=
  bigBytes_core N hN hN' (bytsL N) (bytsL_len N) (bytsL_at N) (bytsL_one N) w
end Go.Proofs.Ytpigofooblmdhaa
