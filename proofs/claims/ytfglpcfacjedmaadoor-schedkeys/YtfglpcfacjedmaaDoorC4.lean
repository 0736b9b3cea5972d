/- sha.blocks hands out a text's whole blocks. -/
import Derived.Test.YtfglpcfacjedmaaDoorZ8
import Derived.Test.YtfglpcfacjedmaaDoorC3
set_option linter.all false
set_option maxRecDepth 100000
namespace Go.Proofs.YtfglpcfacjedmaaDoor
open Go.RowKit Go.Shelf Go.Sort
attribute [local go_sem] Oper.semAt_some
theorem gby {W w1 : World} (hb : Below W.heap.size W w1) : W.grownBy w1 none := ⟨hb.os, hb.tape, hb.output, hb.size, fun k hk _ => hb.block k hk⟩
theorem ko_below {W W' : World} (hb : Below W.heap.size W W') : KeepsOthers W W' := KeepsOthers.of_grownBy (gby hb) (fun j o e _ => by cases e)
theorem arr_kept {W W' : World} {b n : Nat} {f : Nat → Value} {row : Option Nat} (h : Arr W b n f) (hg : W.grownBy W' row) (hr : ∀ r, row = some r → ∃ o : Obj, W.heap[r]? = some o ∧ o.isCells = false) : Arr W' b n f := fun j hj =>
  ⟨cell_kept (h j hj).1 hg hr, (frozen_kept (h j hj).1 hg hr).trans (h j hj).2⟩
/-- What a round keeps: block b's one cell. -/
def KB (b : Nat) (W W' : World) : Prop := ∀ f, Arr W b 1 f → Arr W' b 1 f
theorem KB.t {b : Nat} {A B C : World} (h1 : KB b A B) (h2 : KB b B C) : KB b A C := fun f h => h2 f (h1 f h)
theorem KB.b {b : Nat} (W : World) (l : Nat) (o o' : Obj) (hl : W.heap[l]? = some o) (hc : o.isCells = false) : KB b W (W.putObj l o') := fun f h =>
  arr_kept h (grownBy_putObj' W l o') (fun r e => by cases e; exact ⟨o, hl, hc⟩)
theorem kb_below {b : Nat} {W W' : World} (hb : Below W.heap.size W W') : KB b W W' := fun f h => h.below hb h.lt
/-- A block of a text. -/
abbrev Blk64 : Type := { x : ByteArray // x.size = 64 }
def cutB (s : ByteArray) (k : Nat) : ByteArray := s.extract (64 * k) (64 * k + 64)
def upB (s : ByteArray) (k : Nat) : List ByteArray := (List.range k).map (cutB s)
theorem upB_succ (s : ByteArray) (k : Nat) : upB s (k + 1) = upB s k ++ [cutB s k] := by simp [upB, List.range_succ]
/-- What is left of a text in a cell. -/
def lfB (W : World) (b : Nat) : Nat := match W.cell? ⟨b, 0, none⟩ with
  | some (.string t) => t.size
  | _ => 0
theorem lfB_eq {W : World} {b : Nat} {t : ByteArray} {f : Nat → Value} (h : Arr W b 1 f) (e : f 0 = .string t) : lfB W b = t.size := by
  unfold lfB; rw [h.c 0 (by omega), e]
set_option maxHeartbeats 4000000 in
theorem blocks1_in (s : ByteArray) (hs : s.size ≤ 281474976710656) (n l Bs : Nat) (hn : 1 ≤ n) (Jv : List Blk64 → World → Prop) {B : Nat} (hJ : AbidesFrom B Jv) (hC : ∀ s A v, Jv s A → Jv s (A.setCell ⟨Bs, 0, none⟩ v))
    (hY : ∀ pre (x : Blk64) W, Jv pre W → pre.length < 281474976710656 → YieldAt Fence.wide (n - 1) Tryd.prog l #[.string x.1] W fun e W' => e = .returned (.bool true) ∧ Jv (pre ++ [x]) W' ∧ KB Bs W W')
    (W : World) (hA : Arr W Bs 1 (fun _ => .string s)) (h0 : Jv [] W) :
    CallsIn Fence.wide n Tryd.prog 82 #[.func (.yield l) #[] #[], .pointer (some ⟨Bs, 0, none⟩)] W fun e W' => (∃ v, e = .returned v) ∧
      ∃ ys : List Blk64, ys.map (·.1) = upB s (s.size / 64) ∧ Jv ys W' := by
  have hd : 1 ≤ n := hn
  refine callsIn_of_wp Tryd.func82 rfl trivial ?_ rfl
  simp only [Tryd.ntmps82, List.size_toArray, List.length_cons, List.length_nil, Nat.reduceAdd, Nat.reduceSub, Array.replicate_succ, Array.replicate_zero, List.push_toArray, List.append_toArray, List.nil_append, List.cons_append]
  gi_wp2
  gi_loopw [3] (fun i wr => ∃ (k : Nat) (t : ByteArray) (ys : List Blk64), ys.map (·.1) = upB s k ∧ 64 * k ≤ s.size ∧ t = s.extract (64 * k) s.size ∧ Jv ys wr ∧ Arr wr Bs 1 (fun _ => .string t)) (fun _ wr => lfB wr Bs)
  case atStart => exact ⟨0, s, [], rfl, by omega, by simp, h0, hA⟩
  case round =>
    clear h0 hA
    obtain ⟨k, t, ys, hys, hk, ht, hJs, hA⟩ := hrel
    have tz : t.size = s.size - 64 * k := by rw [ht, ByteArray.size_extract]; omega
    have cA := hA.c 0 (by omega)
    have zA := hA.z 0 (by omega)
    have HT : Hid (t = s.extract (64 * k) s.size) := ht
    have HZ : Hid (t.size = s.size - 64 * k) := tz
    clear ht
    by_cases hlt : 64 ≤ t.size
    · have e64 : (t.extract 0 64).size = 64 := by rw [ByteArray.size_extract]; omega
      obtain ⟨fn, tmps, assign, body, hy, hR⟩ := hY ys ⟨t.extract 0 64, e64⟩ wr hJs (by have := congrArg List.length hys; simp [upB] at this; omega)
      have i64 : (64 : Int) ≤ (t.size : Int) := by omega
      clear tz
      gi_wp2
      refine hR.mono ?_
      rintro e W3 ⟨rfl, hJ3, hb3⟩
      have hA3 := hb3 _ hA
      have cA3 := hA3.c 0 (by omega)
      have zA3 := hA3.z 0 (by omega)
      gi_wp2
      have st := hA3.set 0 (by omega) (.string (t.extract 64 t.size))
      have tx : t.extract 0 64 = cutB s k := by
        rw [HT.out, cutB, ByteArray.extract_extract]
        congr 1
        have := HZ.out
        omega
      refine ⟨⟨k + 1, t.extract 64 t.size, ys ++ [⟨t.extract 0 64, e64⟩], ?_, ?_, ?_, hC _ _ _ hJ3, st.congr (by intro j hj; rw [if_pos (by omega)])⟩, ?_⟩
      · rw [List.map_append, hys, upB_succ, ← tx]; rfl
      · have := HZ.out; omega
      · have := HZ.out
        conv => lhs; rw [HT.out, ByteArray.extract_extract]
        rw [← HT.out]
        congr 1
        · omega
      · rw [lfB_eq hA rfl, lfB_eq st (by rw [if_pos rfl]), ByteArray.size_extract]
        omega
    · have i64 : (t.size : Int) < 64 := by omega
      clear tz
      gi_wp2
      go_end0
      refine ⟨⟨_, rfl⟩, ys, ?_, hJs⟩
      rw [hys]
      have := HZ.out
      congr 1
      omega
theorem blocks_seq (s : ByteArray) (hs : s.size ≤ 281474976710656) (n Bs : Nat) (hn : 1 ≤ n) (w0 : World) (hA : Arr w0 Bs 1 (fun _ => .string s)) :
    SeqC Fence.wide n Tryd.prog 82 #[.pointer (some ⟨Bs, 0, none⟩)] (fun x : Blk64 => #[.string x.1]) (KB Bs) (fun ys => ys.map (·.1) = upB s (s.size / 64)) 281474976710656 Bs w0 :=
  fun l Jv W hW hJ hC hY h0 => blocks1_in s hs n l Bs hn Jv hJ hC hY W (hA.below hW hA.lt) h0
set_option maxHeartbeats 1000000 in
theorem blocks_any (s : ByteArray) (w : World) : Calls Tryd.prog 73 #[.string s] w fun e w' => e = .returned (.func (.func 82) #[] #[.pointer (some ⟨w.heap.size, 0, none⟩)]) ∧ w' = w.alloc (.cells #[.string s] 9) := by
  go_enter Tryd.func73, Tryd.ntmps73
  go_wp2
  go_ret
  exact ⟨rfl, rfl⟩
end Go.Proofs.YtfglpcfacjedmaaDoor
