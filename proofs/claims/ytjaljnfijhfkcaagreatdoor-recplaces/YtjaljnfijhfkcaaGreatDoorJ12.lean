/- Texts joined: C4, C5, C6, C7, D1, D2, G8, G9, R1, R2, R3, D3, D4, G10, G11, G12, G13, Q3, R6, K1. -/
import Derived.OwnWalk
import Derived.Deep.LoopGhost
import Derived.ArgAppend
import Derived.Laws.IdiomStrings
import Derived.Stop.RegionWithIn
import Derived.Test.YtjaljnfijhfkcaaGreatDoorJ9
import Derived.Test.YtjaljnfijhfkcaaGreatDoorJ10
import Derived.Test.YtjaljnfijhfkcaaGreatDoorJ11
import Derived.Test.YtjaljnfijhfkcaaGreatDoorJ8
/- A cipher made; its round keys. -/
set_option linter.all false
set_option maxRecDepth 100000
namespace Go.Proofs.YtjaljnfijhfkcaaGreatDoor
open Go.RowKit Go.Sort Lin
/-- A key has 16 or 32 bytes. -/
def Key (key : ByteArray) : Prop := key.size = 16 ∨ key.size = 32
def nkO (key : ByteArray) : Nat := key.size / 4
/-- The words of a key. -/
def kX (key : ByteArray) (j : Nat) : Int := if j < 4 * (nkO key + 7) then wQ (kQ (bF key) (nkO key) j) else 0
def Fresh (w : World) (b : Nat) (key : ByteArray) : Prop := Cph w b key 0 0 zT (fun _ => 0) 0
def Made (w : World) (b : Nat) (key : ByteArray) : Prop := Cph w b key 1 0 sT (kX key) ((nkO key + 6 : Nat) : Int)
def Either (w : World) (b : Nat) (key : ByteArray) : Prop := Fresh w b key ∨ Made w b key
theorem sched_any (key : ByteArray) (hk : Key key) (b : Nat) (d st : Int) (w : World) (hC0 : Cph w b key d st zT (fun _ => 0) 0) :
    Calls Tryz.prog 131 #[.pointer (some ⟨b, 0, none⟩)] w fun e w' => e = .returned (.tuple #[]) ∧ w.grownBy w' (some b) ∧ Cph w' b key d st sT (kX key) ((nkO key + 6 : Nat) : Int) := by
  rcases hk with h | h
  · have := sched_4 key h b d st (fun _ => 0) 0 (fun _ => rfl) w hC0
    unfold kX nkO
    rw [h]
    exact this
  · have := sched_8 key h b d st (fun _ => 0) 0 (fun _ => rfl) w hC0
    unfold kX nkO
    rw [h]
    exact this
theorem Made.to {w w' : World} {b : Nat} {key : ByteArray} (h : Made w b key) (hb : Below w.heap.size w w') : Made w' b key := Cph.to h hb
theorem Made.lt {w : World} {b : Nat} {key : ByteArray} (h : Made w b key) : b < w.heap.size := Cph.lt h
theorem Either.lt {w : World} {b : Nat} {key : ByteArray} (h : Either w b key) : b < w.heap.size := by rcases h with h | h <;> exact Cph.lt h
theorem Either.to {w w' : World} {b : Nat} {key : ByteArray} (h : Either w b key) (hb : Below w.heap.size w w') : Either w' b key := by
  rcases h with h | h
  · exact .inl (Cph.to h hb)
  · exact .inr (Cph.to h hb)
theorem drew_cph {w : World} {b : Nat} {key d st T X last} (h : Cph w b key d st T X last) : Cph w.drew b key d st T X last := h
set_option maxHeartbeats 1000000 in
theorem made_core (b : Nat) (w : World) (x0 : Value) (Q : World → Prop) (h0 : w.cell? ⟨b, 0, none⟩ = some x0)
    (C : Calls Tryz.prog 130 #[.pointer (some ⟨b, 1, none⟩), .func (.func 131) #[.pointer (some ⟨b, 0, none⟩)] #[]] w fun e w' => e = .returned (.tuple #[]) ∧ Q w') :
    Calls Tryz.prog 124 #[.pointer (some ⟨b, 0, none⟩)] w fun e w' => e = .returned (.pointer (some ⟨b, 0, none⟩)) ∧ Q w' := by
  have hmf : ∀ (fn : Fn) (first cap : Array Value) (w : World), (Instr.makeFunc fn first cap).run Tryz.prog w = .ok (.func fn first cap) w := fun _ _ _ _ => rfl
  go_enter Tryz.func124, Tryz.ntmps124
  go_wp2_with (go_at_call 130; refine C.mono ?_; rintro e w1 ⟨rfl, hq⟩)
  go_ret
  exact ⟨rfl, hq⟩
theorem made_first (key : ByteArray) (hk : Key key) (b : Nat) (w : World) (h : Fresh w b key) :
    Calls Tryz.prog 124 #[.pointer (some ⟨b, 0, none⟩)] w fun e w' => e = .returned (.pointer (some ⟨b, 0, none⟩)) ∧ w.grownBy w' (some b) ∧ Made w' b key := by
  refine made_core b w (.string key) _ (Arr.c h 0 (by omega)) ?_
  refine (do_first b w (fun w2 => (w.setCell ⟨b, 2, none⟩ (.int .i32 1)).grownBy w2 (some b) ∧ Cph w2 b key 0 1 sT (kX key) ((nkO key + 6 : Nat) : Int)) (Arr.c h 1 (by omega)) (Arr.c h 2 (by omega)) (Arr.z h 2 (by omega)) (sched_any key hk b 0 1 _ (Cph.setS h 1)) ?_).mono ?_
  · rintro w2 ⟨_, hC⟩
    exact ⟨Arr.c hC 1 (by omega), Arr.z hC 1 (by omega), Arr.c hC 2 (by omega), Arr.z hC 2 (by omega)⟩
  · rintro e w' ⟨he, w2, ⟨hG, hC⟩, rfl⟩
    refine ⟨he, ?_, Cph.setS (Cph.setD (drew_cph hC) 1) 0⟩
    exact gb_trans (gb_trans (gb_drew (gb_trans (gb_set w b 2 _) hG)) (gb_set _ _ _ _)) (gb_set _ _ _ _)
theorem made_again (key : ByteArray) (b : Nat) (w : World) (h : Made w b key) :
    Calls Tryz.prog 124 #[.pointer (some ⟨b, 0, none⟩)] w fun e w' => e = .returned (.pointer (some ⟨b, 0, none⟩)) ∧ w' = w :=
  made_core b w (.string key) (fun w' => w' = w) (Arr.c h 0 (by omega)) (do_done _ 1 (by decide) _ w (Arr.c h 1 (by omega)))
theorem made_any (key : ByteArray) (hk : Key key) (b : Nat) (w : World) (h : Either w b key) :
    Calls Tryz.prog 124 #[.pointer (some ⟨b, 0, none⟩)] w fun e w' => e = .returned (.pointer (some ⟨b, 0, none⟩)) ∧ w.grownBy w' (some b) ∧ Made w' b key := by
  rcases h with h | h
  · exact made_first key hk b w h
  · exact (made_again key b w h).mono fun e w' ⟨h1, h2⟩ => ⟨h1, by rw [h2]; exact gb_refl _ _, by rw [h2]; exact h⟩
/-- A round key's bytes. -/
def rk (key : ByteArray) (i j : Nat) : By := kB (bF key) (nkO key) (16 * i + j)
theorem kX_rk (key : ByteArray) (i c : Nat) (hi : i < nkO key + 7) (hc : c < 4) : kX key (4 * i + c) = col (rk key i) c := by
  have := col_kB (bF key) (nkO key) i c
  unfold kX
  rw [if_pos (by omega), ← this]
  rfl
theorem slc61 (b i : Nat) (hi : i < 15) (W : World) : (Instr.sliceAt 164 (.pointer (some ⟨b, 260, none⟩)) (some (.int .i64 (4 * (i : Int)))) (some (.int .i64 (4 * ((i : Int) + 1)))) none).run Tryz.prog W = .ok (.slice (some ⟨b, 260 + 4 * i, none⟩) 4 (60 - 4 * i)) W := by
  have e60 : Tryz.prog.arrayLen 164 = 60 := by kernel_rfl
  have h := run_sliceAt_array_lh (P := Tryz.prog) W 164 ⟨b, 260, none⟩ (by kernel_rfl) .i64 .i64 (4 * (i : Int)) (4 * ((i : Int) + 1)) (by omega) (by omega) (by rw [e60]; omega)
  rw [h, e60]
  have hs : (Go.sizeOf (Tryz.prog.elem 164)).run Tryz.prog W = .ok 1 W := by kernel_rfl
  rw [hs, Result.andThen_ok, slicedAt, show (4 * (i : Int)).toNat = 4 * i by omega, show (4 * ((i : Int) + 1)).toNat = 4 * i + 4 by omega, if_neg (by omega), Nat.mul_one, Addr.add_mid, show 4 * i + 4 - 4 * i = 4 by omega]
set_option maxHeartbeats 2000000 in
theorem roundKey_core (b i : Nat) (g : Nat → Int) (w : World) (hi : i < 15) (x0 : Value) (h0 : w.cell? ⟨b, 0, none⟩ = some x0) (hb : b < w.heap.size)
    (hc : ∀ c, c < 4 → w.cell? ⟨b, 260 + (4 * i + c), none⟩ = some (.int .u32 (g c))) :
    Calls Tryz.prog 125 #[.pointer (some ⟨b, 0, none⟩), .int .i64 (i : Int)] w fun e w' => e = .returned (bv g) ∧ Below w.heap.size w w' := by
  have i0 : (0 : Int) ≤ (i : Int) := by omega
  have i15 : (i : Int) < 15 := by omega
  have S := slc61 b i hi
  have A : ∀ W, (Instr.arrayAt 168 (.slice (some ⟨b, 260 + 4 * i, none⟩) 4 (60 - 4 * i))).run Tryz.prog W = .ok (.pointer (some ⟨b, 260 + 4 * i, none⟩)) W := fun W => by
    simp only [Instr.arrayAt, Sem.run_bind, run_underlying Tryz.underlying168, Result.andThen_ok]
    rfl
  have N := Arr.new w #[.int .u32 0, .int .u32 0, .int .u32 0, .int .u32 0] 168 _ rfl _ 4 z4_at
  have hB : Below w.heap.size w (w.alloc (.cells #[.int .u32 0, .int .u32 0, .int .u32 0, .int .u32 0] 168)) := (Below.refl _ _).alloc (Nat.le_refl _) _
  have HC : Hid (∀ c, c < 4 → (w.alloc (.cells #[.int .u32 0, .int .u32 0, .int .u32 0, .int .u32 0] 168)).cell? ⟨b, 260 + 4 * i + c, none⟩ = some (.int .u32 (g c))) := fun c h => by
    rw [World.cell?_alloc_past _ _ _ hb, Nat.add_assoc]
    exact hc c h
  clear hc
  go_enter Tryz.func125, Tryz.ntmps125
  go_upto_region 1 with (fail)
  generalize (w.alloc (.cells #[.int .u32 0, .int .u32 0, .int .u32 0, .int .u32 0] 168)) = w1 at *
  have c0 := HC.out 0 (by omega)
  have c1 := HC.out 1 (by omega)
  have c2 := HC.out 2 (by omega)
  have c3 := HC.out 3 (by omega)
  rw [Nat.add_zero] at c0
  have d := N.c
  have z := N.z
  have E := (N.st4 g).c
  clear HC
  go_wp2_with fail
  refine bodyPost_ret (v := bv g) ?_ rfl ⟨rfl, Bel.st4 hB (by omega) g⟩
  simp only [Go.Proofs.YtjaljnfijhfkcaaGreatDoor.st4] at E
  simp [bv, results, Tryz.results125, go_sem, E]
theorem roundKey_any (key : ByteArray) (hk : Key key) (b i : Nat) (hi : i < nkO key + 7) (w : World) (hM : Made w b key) :
    Calls Tryz.prog 125 #[.pointer (some ⟨b, 0, none⟩), .int .i64 (i : Int)] w fun e w' => e = .returned (bv (col (rk key i))) ∧ Below w.heap.size w w' := by
  have h15 : nkO key + 7 ≤ 15 := by unfold nkO; rcases hk with h | h <;> omega
  refine roundKey_core b i _ w (by omega) (.string key) (Arr.c hM 0 (by omega)) hM.lt (fun c hc => ?_)
  rw [Arr.c hM (260 + (4 * i + c)) (by omega), cph_X _ (by omega), kX_rk key i c hi hc]
end Go.Proofs.YtjaljnfijhfkcaaGreatDoor
/- The round keys handed out, forward and backward. -/
set_option linter.all false
set_option maxRecDepth 100000
namespace Go.Proofs.YtjaljnfijhfkcaaGreatDoor
open Go.RowKit Go.Shelf Go.Sort
attribute [local go_sem] Oper.semAt_some
/-- What a round keeps: the cipher's block, and the box with its address. -/
def KM (b bx : Nat) (W W' : World) : Prop := (∀ f, Arr W b 321 f → Arr W' b 321 f) ∧ (∀ f, Arr W bx 1 f → Arr W' bx 1 f)
theorem KM.t {b bx : Nat} {A B C : World} (h1 : KM b bx A B) (h2 : KM b bx B C) : KM b bx A C := ⟨fun f h => h2.1 f (h1.1 f h), fun f h => h2.2 f (h1.2 f h)⟩
theorem KM.b {b bx : Nat} (W : World) (l : Nat) (o o' : Obj) (hl : W.heap[l]? = some o) (hc : o.isCells = false) : KM b bx W (W.putObj l o') :=
  ⟨fun f h => arr_kept h (grownBy_putObj' W l o') (fun r e => by cases e; exact ⟨o, hl, hc⟩), fun f h => arr_kept h (grownBy_putObj' W l o') (fun r e => by cases e; exact ⟨o, hl, hc⟩)⟩
theorem KM.g {b bx : Nat} (A B : World) (h : A.grownBy B none) : KM b bx A B := ⟨fun f hA => arr_kept hA h (fun r e => by cases e), fun f hA => arr_kept hA h (fun r e => by cases e)⟩
theorem KM.below {b bx : Nat} {W W' : World} (hb : Below W.heap.size W W') : KM b bx W W' := ⟨fun f h => h.below hb h.lt, fun f h => h.below hb h.lt⟩
def encK (key : ByteArray) (x : Nat) : Array Value := #[.int .i64 (x : Int), bv (col (rk key x))]
def MkF (key : ByteArray) (b : Nat) (pre : List Nat) (x : Nat) (W : World) : Prop := Made W b key ∧ x = pre.length ∧ x < nkO key + 7 ∧ pre = List.range x
def MkB (key : ByteArray) (b : Nat) (pre : List Nat) (x : Nat) (W : World) : Prop := Made W b key ∧ x + pre.length = nkO key + 6 ∧ x < nkO key + 7 ∧ pre = (List.range pre.length).map (nkO key + 6 - ·)
def AllF (key : ByteArray) (ys : List Nat) : Prop := ys = List.range (nkO key + 7)
def AllB (key : ByteArray) (ys : List Nat) : Prop := ys = (List.range (nkO key + 7)).map (nkO key + 6 - ·)
set_option maxHeartbeats 4000000 in
theorem forward1_in (key : ByteArray) (hk : Key key) (n l b bx : Nat) (hn : 1 ≤ n) (hne : bx ≠ b) (Jv Jx : List Nat → World → Prop) {B : Nat} (hJ : AbidesFrom B Jv) (hC : ∀ s A A', Jv s A → A.grownBy A' (some b) → Jv s A')
    (hY : ∀ pre (x : Nat) W, Jv pre W → MkF key b pre x W → YieldAt Fence.wide (n - 1) Tryz.prog l (encK key x) W fun e W' => (e = .returned (.bool true) ∧ Jv (pre ++ [x]) W' ∧ KM b bx W W') ∨ (e = .returned (.bool false) ∧ Jx (pre ++ [x]) W'))
    (W : World) (hE : Either W b key) (hA : Arr W bx 1 (fun _ => .pointer (some ⟨b, 0, none⟩))) (h0 : Jv [] W) :
    CallsIn Fence.wide n Tryz.prog 123 #[.func (.yield l) #[] #[], .pointer (some ⟨bx, 0, none⟩)] W fun e W' => (∃ v, e = .returned v) ∧
      ((∃ ys : List Nat, AllF key ys ∧ Jv ys W' ∧ Made W' b key) ∨ (∃ pre : List Nat, True ∧ Jx pre W')) := by
  have hd : 1 ≤ n := hn
  have nk1 : nkO key ≤ 8 := by unfold nkO; rcases hk with h | h <;> omega
  refine callsIn_of_wp Tryz.func123 rfl trivial ?_ rfl
  simp only [Tryz.ntmps123, List.size_toArray, List.length_cons, List.length_nil, Nat.reduceAdd, Nat.reduceSub, Array.replicate_succ, Array.replicate_zero, List.push_toArray, List.append_toArray, List.nil_append, List.cons_append]
  obtain ⟨m, hm⟩ : ∃ m, nkO key + 6 = m := ⟨_, rfl⟩
  have HM : Hid (nkO key + 6 = m) := hm
  have m14 : (m : Int) ≤ 14 := by omega
  clear hm
  have cb := hA.c 0 (by omega)
  have mk := made_any key hk b W hE
  gi_wp2_with (refine ⟨trivial, ?_⟩; gi_at_call 124; refine (callsIn_wide.2 mk).mono ?_; rintro e w1 ⟨rfl, hG, hM⟩; have cl := Arr.c hM 320 (by omega); rw [cph_l, HM.out] at cl; have c00 := Arr.c hM 0 (by omega))
  have A1 := gb_arr hG hne hA
  have J1 := hC _ _ _ h0 hG
  clear cb mk hE hA h0 cl c00 hG
  have hnot : ∀ (x : Bool) (w : World), (Op.unary .not (.bool x)).run Tryz.prog w = .ok (.bool (!x)) w := fun _ _ => rfl
  gi_loopw [10] (fun i wr => ∃ k : Nat, k ≤ m + 1 ∧ i = .int .i64 k ∧ Jv (List.range k) wr ∧ Made wr b key ∧ Arr wr bx 1 (fun _ => .pointer (some ⟨b, 0, none⟩))) (fun i _ => m + 1 - (intOf i).toNat)
  case atStart => exact ⟨0, by omega, rfl, J1, hM, A1⟩
  case round =>
    clear J1 hM A1
    obtain ⟨k, hkm, rfl, hJs, hM, hA⟩ := hrel
    have k0 : (0 : Int) ≤ (k : Int) := by omega
    by_cases hlt : k < m + 1
    · have k1 : (k : Int) < (m : Int) + 1 := by omega
      have cb := hA.c 0 (by omega)
      have rkc := roundKey_any key hk b k (by have := HM.out; omega) wr hM
      gi_wp2_with (refine ⟨trivial, ?_⟩; gi_at_call 125; refine (callsIn_wide.2 rkc).mono ?_; rintro e w2 ⟨rfl, hb⟩; have hJ2 := hJ _ wr w2 none hJs (gby hb) (fun r e => by cases e); have hM2 := hM.to hb; have hA2 := hA.to' hb; obtain ⟨fn, tmps, assign, body, hy, hR⟩ := hY (List.range k) k w2 hJ2 ⟨hM2, by simp, by have := HM.out; omega, rfl⟩; unfold encK at hy; clear hJs hM hA hb cb rkc)
      refine hR.mono ?_
      rintro e W3 (⟨rfl, hJ3, hK⟩ | ⟨rfl, hJx3⟩)
      · gi_wp2
        refine ⟨⟨k + 1, by omega, by go_num, by rw [List.range_succ]; exact hJ3, hK.1 _ hM2, hK.2 _ hA2⟩, by first | (simp [intOf]; done) | (simp [intOf]; omega)⟩
      · gi_wp2
        refine bodyPost_ret (results_none rfl _ _ _) rfl ?_
        exact ⟨⟨_, rfl⟩, .inr ⟨_, trivial, hJx3⟩⟩
    · have k1 : ¬ (k : Int) < (m : Int) + 1 := by omega
      have e : k = m + 1 := by omega
      gi_wp2
      go_end0
      refine ⟨⟨_, rfl⟩, .inl ⟨_, ?_, hJs, hM⟩⟩
      unfold AllF
      rw [e]
      congr 1
      have := HM.out
      omega
theorem forward_seq (key : ByteArray) (hk : Key key) (n b bx : Nat) (hn : 1 ≤ n) (hne : bx ≠ b) (w0 : World) (hE : Either w0 b key) (hA : Arr w0 bx 1 (fun _ => .pointer (some ⟨b, 0, none⟩))) :
    SeqM Fence.wide n Tryz.prog 123 #[.pointer (some ⟨bx, 0, none⟩)] (encK key) (KM b bx) (MkF key b) (fun _ => True) (AllF key) (fun _ => True) (some b) (fun W => Made W b key) w0 :=
  fun l Jv Jx W hW hJ _ hC _ hY h0 => forward1_in key hk n l b bx hn hne Jv Jx hJ hC hY W (hE.to hW) (hA.to' hW) h0
theorem forward_any (p : Addr) (w : World) : Calls Tryz.prog 107 #[.pointer (some p)] w fun e w' => e = .returned (.func (.func 123) #[] #[.pointer (some ⟨w.heap.size, 0, none⟩)]) ∧ w' = w.alloc (.cells #[.pointer (some p)] 179) := by
  go_enter Tryz.func107, Tryz.ntmps107
  go_wp2
  go_ret
  exact ⟨rfl, rfl⟩
end Go.Proofs.YtjaljnfijhfkcaaGreatDoor
/- Blocks turned by a key: the program's. -/
set_option linter.all false
set_option maxRecDepth 100000
namespace Go.Proofs.YtjaljnfijhfkcaaGreatDoor
open Go.RowKit Go.Shelf Go.Sort
attribute [local go_sem] Oper.semAt_some
/-- A round, ahead of its key. -/
def rdE (key : ByteArray) (i : Nat) (f : Nat → By) : Nat → By := if i = 0 then f else if i = nkO key + 6 then tnF (beF sb f) else mxF 2 3 1 1 (tnF (beF sb f))
/-- What i round keys make of a block. -/
def eS (key : ByteArray) (f : Nat → By) : Nat → Nat → By
  | 0 => f
  | i + 1 => plF (rdE key i (eS key f i)) (rk key i)
def encF (key : ByteArray) (f : Nat → By) : Nat → By := eS key f (nkO key + 7)
theorem gb_new {w W W' : World} {r : Option Nat} {q : Nat} (h : w.grownBy W r) (hq : w.heap.size ≤ q) (k : W.grownBy W' (some q)) : w.grownBy W' r :=
  ⟨k.os.trans h.os, k.tape.trans h.tape, k.output.trans h.output, Nat.le_trans h.size k.size, fun i hi hr => (k.block i (Nat.lt_of_lt_of_le hi h.size) (by intro e; cases e; omega)).trans (h.block i hi hr)⟩
theorem gb_st4 (W : World) (q : Nat) (g : Nat → Int) : W.grownBy (st4 W q g) (some q) := gb_trans (gb_trans (gb_trans (gb_set _ _ _ _) (gb_set _ _ _ _)) (gb_set _ _ _ _)) (gb_set _ _ _ _)
theorem KM.st4 {b bx q : Nat} (h1 : q ≠ b) (h2 : q ≠ bx) (W : World) (g : Nat → Int) : KM b bx W (st4 W q g) := ⟨fun f h => h.st4o h1 g, fun f h => h.st4o h2 g⟩
theorem Made.kept {W W' : World} {b : Nat} {key : ByteArray} {row : Option Nat} (h : Made W b key) (hg : W.grownBy W' row) (hr : ∀ r, row = some r → ∃ o : Obj, W.heap[r]? = some o ∧ o.isCells = false) : Made W' b key := arr_kept h hg hr
/-- What the rounds keep. -/
structure IE (w : World) (b q0 q1 q2 : Nat) (y : Nat → Int) (W : World) : Prop where
  g : w.grownBy W (some b)
  p : Arr W q0 1 (fun _ => .pointer (some ⟨b, 0, none⟩))
  s : Arr W q1 4 (fun j => .int .u32 (y j))
  z : Arr W q2 4 (fun _ => .int .u32 0)
def IEx (w : World) (b q0 q1 q2 : Nat) (Y : Nat → Nat → Int) (pre : List Nat) (W : World) : Prop := IE w b q0 q1 q2 (Y pre.length) W
def INo (pre : List Nat) (W : World) : Prop := False
theorem IE.own {w A A' : World} {b q0 q1 q2 : Nat} {y : Nat → Int} {row : Option Nat} (h : IE w b q0 q1 q2 y A) (hg : A.grownBy A' row) (hr : ∀ r, row = some r → w.heap.size ≤ r ∧ ∃ o : Obj, A.heap[r]? = some o ∧ o.isCells = false) : IE w b q0 q1 q2 y A' := by
  obtain ⟨h1, h2, h3, h4⟩ := h
  have hr' : ∀ r, row = some r → ∃ o : Obj, A.heap[r]? = some o ∧ o.isCells = false := fun r e => (hr r e).2
  refine ⟨?_, arr_kept h2 hg hr', arr_kept h3 hg hr', arr_kept h4 hg hr'⟩
  cases row with
  | none => exact ⟨hg.os.trans h1.os, hg.tape.trans h1.tape, hg.output.trans h1.output, Nat.le_trans h1.size hg.size, fun i hi hr => (hg.block i (Nat.lt_of_lt_of_le hi h1.size) (by intro e; cases e)).trans (h1.block i hi hr)⟩
  | some r => exact gb_new h1 (hr r rfl).1 hg
theorem IEx_own (w : World) (b q0 q1 q2 : Nat) (Y : Nat → Nat → Int) (B : Nat) (hB : w.heap.size ≤ B) : OwnFrom B (IEx w b q0 q1 q2 Y) :=
  fun s A A' row h hg hr => IE.own h hg (fun r e => ⟨Nat.le_trans hB (hr r e).1, (hr r e).2⟩)
theorem INo_own (B : Nat) : OwnFrom B INo := fun s A A' row h _ _ => h
theorem IEx_gb (w : World) (b q0 q1 q2 : Nat) (h0 : q0 ≠ b) (h1 : q1 ≠ b) (h2 : q2 ≠ b) (Y : Nat → Nat → Int) (s : List Nat) (A B : World) (h : IEx w b q0 q1 q2 Y s A) (hg : A.grownBy B (some b)) : IEx w b q0 q1 q2 Y s B :=
  ⟨gb_trans h.g hg, gb_arr hg h0 h.p, gb_arr hg h1 h.s, gb_arr hg h2 h.z⟩
theorem MkF_own (key : ByteArray) (b B : Nat) : OwnFrom B (fun (s : List Nat × Nat) W => MkF key b s.1 s.2 W) := fun s A A' row h hg hr => ⟨h.1.kept hg (fun r e => (hr r e).2), h.2⟩
theorem MkB_own (key : ByteArray) (b B : Nat) : OwnFrom B (fun (s : List Nat × Nat) W => MkB key b s.1 s.2 W) := fun s A A' row h hg hr => ⟨h.1.kept hg (fun r e => (hr r e).2), h.2⟩
theorem Made_own (key : ByteArray) (b B : Nat) : OwnFrom B (fun (_ : Unit) W => Made W b key) := fun s A A' row h hg hr => h.kept hg (fun r e => (hr r e).2)
theorem one_at (v : Value) (j : Nat) (hj : j < 1) : (#[v] : Array Value)[j]? = some v := by
  obtain rfl : j = 0 := by omega
  rfl
set_option maxHeartbeats 8000000 in
theorem encrypted_core (key : ByteArray) (hk : Key key) (b : Nat) (Y R : Nat → Nat → Int) (w : World) (hE : Either w b key)
    (C46 : ∀ i, i < nkO key + 7 → ∀ W, Calls Tryz.prog 111 #[bv (R i), bv (col (rk key i))] W fun e w' => e = .returned (bv (Y (i + 1))) ∧ Below W.heap.size W w')
    (h0 : R 0 = Y 0) (V1 V2 V3 : Nat → Nat → Int)
    (C43 : ∀ i W, TabAt W b 4 sb → Calls Tryz.prog 108 #[bv (Y i), .pointer (some ⟨b, 4, none⟩)] W fun e w' => e = .returned (bv (V1 i)) ∧ Below W.heap.size W w')
    (C44 : ∀ i W, Calls Tryz.prog 109 #[bv (V1 i)] W fun e w' => e = .returned (bv (V2 i)) ∧ Below W.heap.size W w')
    (C45 : ∀ i W, Calls Tryz.prog 110 #[bv (V2 i)] W fun e w' => e = .returned (bv (V3 i)) ∧ Below W.heap.size W w')
    (hL : R (nkO key + 6) = V2 (nkO key + 6)) (hM : ∀ i, i ≠ 0 → i ≠ nkO key + 6 → R i = V3 i) :
    Calls Tryz.prog 96 #[.pointer (some ⟨b, 0, none⟩), bv (Y 0)] w fun e w' => e = .returned (bv (Y (nkO key + 7))) ∧ w.grownBy w' (some b) ∧ Made w' b key := by
  refine (callsIn_wide (n := 8)).1 ?_
  refine callsIn_of_wp_marks Tryz.func96 rfl trivial ?_ rfl
  unfold bv at *
  simp only [Tryz.ntmps96, List.size_toArray, List.length_cons, List.length_nil, Nat.reduceAdd, Nat.reduceSub, Array.replicate_succ, Array.replicate_zero, List.push_toArray, List.append_toArray, List.nil_append, List.cons_append]
  gi_wp2_with (refine ⟨trivial, ?_⟩; gi_at_call 107; refine (callsIn_wide.2 (forward_any _ _)).mono ?_; rintro e w3 ⟨rfl, rfl⟩)
  have P0 : Arr ((((w.alloc (.cells #[.pointer (some ⟨b, 0, none⟩)] 179)).alloc (.cells #[.int .u32 (Y 0 0), .int .u32 (Y 0 1), .int .u32 (Y 0 2), .int .u32 (Y 0 3)] 168)).alloc (.cells #[.int .u32 0, .int .u32 0, .int .u32 0, .int .u32 0] 168)).alloc (.cells #[.pointer (some ⟨b, 0, none⟩)] 179)) w.heap.size 1 (fun _ => .pointer (some ⟨b, 0, none⟩)) := (((Arr.new w _ 179 _ rfl _ 1 (fun j hj => one_at _ j hj)).al' _).al' _).al' _
  have S1 : Arr ((((w.alloc (.cells #[.pointer (some ⟨b, 0, none⟩)] 179)).alloc (.cells #[.int .u32 (Y 0 0), .int .u32 (Y 0 1), .int .u32 (Y 0 2), .int .u32 (Y 0 3)] 168)).alloc (.cells #[.int .u32 0, .int .u32 0, .int .u32 0, .int .u32 0] 168)).alloc (.cells #[.pointer (some ⟨b, 0, none⟩)] 179)) (w.heap.size + 1) 4 (fun j => .int .u32 (Y 0 j)) := ((Arr.new _ _ 168 _ (by simp) _ 4 (h4_at (Y 0))).al' _).al' _
  have Z2 : Arr ((((w.alloc (.cells #[.pointer (some ⟨b, 0, none⟩)] 179)).alloc (.cells #[.int .u32 (Y 0 0), .int .u32 (Y 0 1), .int .u32 (Y 0 2), .int .u32 (Y 0 3)] 168)).alloc (.cells #[.int .u32 0, .int .u32 0, .int .u32 0, .int .u32 0] 168)).alloc (.cells #[.pointer (some ⟨b, 0, none⟩)] 179)) (w.heap.size + 1 + 1) 4 (fun _ => .int .u32 0) := (Arr.new _ _ 168 _ (by simp) _ 4 z4_at).al' _
  have X3 : Arr ((((w.alloc (.cells #[.pointer (some ⟨b, 0, none⟩)] 179)).alloc (.cells #[.int .u32 (Y 0 0), .int .u32 (Y 0 1), .int .u32 (Y 0 2), .int .u32 (Y 0 3)] 168)).alloc (.cells #[.int .u32 0, .int .u32 0, .int .u32 0, .int .u32 0] 168)).alloc (.cells #[.pointer (some ⟨b, 0, none⟩)] 179)) (w.heap.size + 1 + 1 + 1) 1 (fun _ => .pointer (some ⟨b, 0, none⟩)) := Arr.new _ _ 179 _ (by simp) _ 1 (fun j hj => one_at _ j hj)
  have hB : Below w.heap.size w ((((w.alloc (.cells #[.pointer (some ⟨b, 0, none⟩)] 179)).alloc (.cells #[.int .u32 (Y 0 0), .int .u32 (Y 0 1), .int .u32 (Y 0 2), .int .u32 (Y 0 3)] 168)).alloc (.cells #[.int .u32 0, .int .u32 0, .int .u32 0, .int .u32 0] 168)).alloc (.cells #[.pointer (some ⟨b, 0, none⟩)] 179)) := by go_grown
  generalize ((((w.alloc (.cells #[.pointer (some ⟨b, 0, none⟩)] 179)).alloc (.cells #[.int .u32 (Y 0 0), .int .u32 (Y 0 1), .int .u32 (Y 0 2), .int .u32 (Y 0 3)] 168)).alloc (.cells #[.int .u32 0, .int .u32 0, .int .u32 0, .int .u32 0] 168)).alloc (.cells #[.pointer (some ⟨b, 0, none⟩)] 179)) = w4 at P0 S1 Z2 X3 hB ⊢
  have bl := hE.lt
  have hE4 := hE.to hB
  obtain ⟨q1, e1⟩ : ∃ q, w.heap.size + 1 = q := ⟨_, rfl⟩
  rw [e1] at S1 Z2 X3 ⊢
  obtain ⟨q2, e2⟩ : ∃ q, q1 + 1 = q := ⟨_, rfl⟩
  rw [e2] at Z2 X3 ⊢
  obtain ⟨q3, e3⟩ : ∃ q, q2 + 1 = q := ⟨_, rfl⟩
  rw [e3] at X3 ⊢
  obtain ⟨q0, e0⟩ : ∃ q, w.heap.size = q := ⟨_, rfl⟩
  have HQ : Hid (q0 = w.heap.size ∧ q1 = q0 + 1 ∧ q2 = q0 + 2 ∧ q3 = q0 + 3 ∧ b < q0) := ⟨by omega, by omega, by omega, by omega, by omega⟩
  rw [e0] at P0 e1 ⊢
  clear e0 e1 e2 e3 bl hE
  have n0 : q0 ≠ b := by have := HQ.out; omega
  have n1 : q1 ≠ b := by have := HQ.out; omega
  have n2 : q2 ≠ b := by have := HQ.out; omega
  have n3 : q3 ≠ b := by have := HQ.out; omega
  have n13 : q1 ≠ q3 := by have := HQ.out; omega
  have sz : w.heap.size ≤ w4.heap.size := hB.size
  refine wpIn_rangeFunc_made rfl (by omega) (gf := 123) (lb := #[.pointer (some ⟨q3, 0, none⟩)]) rfl trivial (enters_of Tryz.func123 (by kernel_rfl) rfl)
    (forward_seq key hk _ b q3 (by omega) n3 w4 hE4 X3) KM.t (fun W l o o' _ h1 h2 => KM.b W l o o' h1 h2) KM.g (Below.refl _ _) (fun _ => rfl)
    (fun k e => by cases e; exact hE4.lt) (MkF_own key b _) (Made_own key b _)
    (IEx w b q0 q1 q2 Y) INo (IEx_own w b q0 q1 q2 Y _ sz) (INo_own _) (IEx_gb w b q0 q1 q2 n0 n1 n2 Y) (fun _ _ _ => trivial)
    ⟨gb_of hB, P0, S1, Z2⟩ ?round ?done ?stop
  case round =>
    clear P0 S1 Z2 X3 hB hE4
    rintro l pre x W hI hMk
    obtain ⟨hM, hx, hx7, hpre⟩ := hMk
    have HX : Hid (x = pre.length) := hx
    clear hx hpre
    unfold encK bv
    gi_wp2
    refine ⟨World.grownBy_alloc W _ none, ?_⟩
    intro W2 hU hI2 hM2
    have K1 : Arr (W.alloc (.cells #[.int .u32 (col (rk key x) 0), .int .u32 (col (rk key x) 1), .int .u32 (col (rk key x) 2), .int .u32 (col (rk key x) 3)] 168)) W.heap.size 4 (fun j => .int .u32 (col (rk key x) j)) := Arr.new _ _ 168 _ rfl _ 4 (h4_at _)
    have IK := hU.arr K1
    have t1 : q1 < W.heap.size := hI.s.lt
    have MM := hM2.1
    clear hU K1 hM2 hM
    generalize W.heap.size = t at *
    have nt : q1 ≠ t := by omega
    unfold IEx at hI2
    rw [← HX.out] at hI2
    obtain ⟨jG, JP, JS, JZ⟩ := hI2
    have n10 : q1 ≠ q0 := by have := HQ.out; omega
    have n12 : q1 ≠ q2 := by have := HQ.out; omega
    have hd : 1 ≤ 8 - 1 - 1 := by omega
    have c46 := C46 x hx7
    have x0 : (0 : Int) ≤ (x : Int) := by omega
    have JK := IK
    have KO : KeepsOthers W2 W2 := KeepsOthers.refl _
    have KK : KM b q3 W2 W2 := ⟨fun f h => h, fun f h => h⟩
    clear IK hI C46
    by_cases hx0 : x = 0
    · have hxi : (x : Int) = 0 := by omega
      have eR : R x = Y x := by rw [hx0]; exact h0
      rw [eR] at c46
      clear h0 hL hM C43 C44 C45 MM eR hx0
      generalize col (rk key x) = kx at *
      have d0 := JS.c
      have dk := JK.c
      have zs := JS.z
      gi_wp2_with (refine ⟨trivial, ?_⟩; gi_at_call 111; refine (CallsIn.inRound l (callsIn_wide.2 (c46 _))).mono ?_; rintro e w9 ⟨rfl, hb9⟩; have JS9 := JS.to' hb9; have d9 := JS9.c; have z9 := JS9.z)
      have JP9 := JP.to' hb9
      have JZ9 := JZ.to' hb9
      have jG9 := gb_trans jG (gb_of hb9)
      refine ⟨KO.trans ((ko_below hb9).trans (ko_st4 _ _ _)), KK.t ((KM.below hb9).t (KM.st4 n1 n13 _ _)), ?_⟩
      show IE w b q0 q1 q2 (Y (pre ++ [x]).length) _
      rw [List.length_append, List.length_singleton, ← HX.out]
      exact ⟨gb_new jG9 (by have := HQ.out; omega) (gb_st4 _ _ _), JP9.st4o n10 _, JS9.st4 _, JZ9.st4o n12 _⟩
    · have hxi : ¬ (x : Int) = 0 := by omega
      have cl := Arr.c MM 320 (by omega)
      rw [cph_l] at cl
      have c00 := Arr.c MM 0 (by omega)
      have cp := JP.c 0 (by omega)
      have tR := fun ds os => (Cph.tab MM).to (below_regrown W2 ds os)
      have r0 := fun ds os => cell_regrown (JS.c 0 (by omega)) ds os
      have r1 := fun ds os => cell_regrown (JS.c 1 (by omega)) ds os
      have r2 := fun ds os => cell_regrown (JS.c 2 (by omega)) ds os
      have r3 := fun ds os => cell_regrown (JS.c 3 (by omega)) ds os
      have rp := fun ds os => cell_regrown cp ds os
      have rq := fun ds os => cell_regrown c00 ds os
      have c43 := C43 x
      have c44 := C44 x
      have c45 := C45 x
      clear C43 C44 C45
      by_cases hxl : x = nkO key + 6
      · have hxj : (x : Int) = ((nkO key + 6 : Nat) : Int) := by omega
        rw [← hxj] at cl
        rw [← hxl] at hL
        rw [hL] at c46
        have HXL : Hid (x = nkO key + 6) := hxl
        clear hL hM h0 hxj hxl
        generalize col (rk key x) = kx at *
        gi_wp2
        refine wpIn_region_below_tail 6 (by kernel_rfl) (by kernel_rfl) ?_
        simp only [List.take_succ_cons, List.take_zero, List.drop_succ_cons, List.drop_zero]
        repeat (go_big_quiet_step (first | (go_at_call 108; exact Calls.regrown_of (c43 _ (tR _ _))) | (go_at_call 109; exact Calls.regrown_of (c44 _))))
        refine wpQuiet_nil ?_
        intro w5 hw'
        obtain ⟨⟨dq, osq⟩, hw''⟩ := hw'
        have hb := below_of hw''
        clear hw'' r0 r1 r2 r3 rp rq tR c43 c44 c45 cl c00 cp MM
        have KO5 := ko_below hb
        have KK5 : KM b q3 W2 w5 := KM.below hb
        have jG5 := gb_trans jG (gb_of hb)
        have JP5 := JP.to' hb
        have JS5 := JS.to' hb
        have JZ5 := JZ.to' hb
        have JK5 := JK.to' hb
        clear jG JP JS JZ JK KO KK hb
        have ds := JS5.c
        have zz := JS5.z
        have JS := JS5.st4 (V2 x)
        have KO := KO5.trans (ko_st4 w5 q1 (V2 x))
        have KK := KK5.t (KM.st4 n1 n13 w5 (V2 x))
        have jG := gb_new jG5 (by have := HQ.out; omega) (gb_st4 w5 q1 (V2 x))
        have JP := JP5.st4o n10 (V2 x)
        have JZ := JZ5.st4o n12 (V2 x)
        have JK := JK5.st4o nt (V2 x)
        have dk := JK5.c
        gi_wp2_with (refine ⟨trivial, ?_⟩; gi_at_call 111; refine (CallsIn.inRound l (callsIn_wide.2 (c46 _))).mono ?_; rintro e w9 ⟨rfl, hb9⟩; have JS9 := JS.to' hb9; have d9 := JS9.c; have z9 := JS9.z)
        have JP9 := JP.to' hb9
        have JZ9 := JZ.to' hb9
        have jG9 := gb_trans jG (gb_of hb9)
        refine ⟨KO.trans ((ko_below hb9).trans (ko_st4 _ _ _)), KK.t ((KM.below hb9).t (KM.st4 n1 n13 _ _)), ?_⟩
        show IE w b q0 q1 q2 (Y (pre ++ [x]).length) _
        rw [List.length_append, List.length_singleton, ← HX.out]
        exact ⟨gb_new jG9 (by have := HQ.out; omega) (gb_st4 _ _ _), JP9.st4o n10 _, JS9.st4 _, JZ9.st4o n12 _⟩
      · have hxj : ¬ (x : Int) = ((nkO key + 6 : Nat) : Int) := by omega
        obtain ⟨m, hm⟩ : ∃ m : Int, ((nkO key + 6 : Nat) : Int) = m := ⟨_, rfl⟩
        rw [hm] at cl hxj
        rw [hM x hx0 hxl] at c46
        clear hL hM h0 hm hxl
        generalize col (rk key x) = kx at *
        gi_wp2
        refine wpIn_region_below_tail 7 (by kernel_rfl) (by kernel_rfl) ?_
        simp only [List.take_succ_cons, List.take_zero, List.drop_succ_cons, List.drop_zero]
        repeat (go_big_quiet_step (first | (go_at_call 108; exact Calls.regrown_of (c43 _ (tR _ _))) | (go_at_call 109; exact Calls.regrown_of (c44 _)) | (go_at_call 110; exact Calls.regrown_of (c45 _))))
        refine wpQuiet_nil ?_
        intro w5 hw'
        obtain ⟨⟨dq, osq⟩, hw''⟩ := hw'
        have hb := below_of hw''
        clear hw'' r0 r1 r2 r3 rp rq tR c43 c44 c45 cl c00 cp MM
        have KO5 := ko_below hb
        have KK5 : KM b q3 W2 w5 := KM.below hb
        have jG5 := gb_trans jG (gb_of hb)
        have JP5 := JP.to' hb
        have JS5 := JS.to' hb
        have JZ5 := JZ.to' hb
        have JK5 := JK.to' hb
        clear jG JP JS JZ JK KO KK hb
        have ds := JS5.c
        have zz := JS5.z
        have JS := JS5.st4 (V3 x)
        have KO := KO5.trans (ko_st4 w5 q1 (V3 x))
        have KK := KK5.t (KM.st4 n1 n13 w5 (V3 x))
        have jG := gb_new jG5 (by have := HQ.out; omega) (gb_st4 w5 q1 (V3 x))
        have JP := JP5.st4o n10 (V3 x)
        have JZ := JZ5.st4o n12 (V3 x)
        have JK := JK5.st4o nt (V3 x)
        have dk := JK5.c
        gi_wp2_with (refine ⟨trivial, ?_⟩; gi_at_call 111; refine (CallsIn.inRound l (callsIn_wide.2 (c46 _))).mono ?_; rintro e w9 ⟨rfl, hb9⟩; have JS9 := JS.to' hb9; have d9 := JS9.c; have z9 := JS9.z)
        have JP9 := JP.to' hb9
        have JZ9 := JZ.to' hb9
        have jG9 := gb_trans jG (gb_of hb9)
        refine ⟨KO.trans ((ko_below hb9).trans (ko_st4 _ _ _)), KK.t ((KM.below hb9).t (KM.st4 n1 n13 _ _)), ?_⟩
        show IE w b q0 q1 q2 (Y (pre ++ [x]).length) _
        rw [List.length_append, List.length_singleton, ← HX.out]
        exact ⟨gb_new jG9 (by have := HQ.out; omega) (gb_st4 _ _ _), JP9.st4o n10 _, JS9.st4 _, JZ9.st4o n12 _⟩
  case done =>
    clear P0 S1 Z2 X3 hB hE4 C43 C44 C45 C46 h0 hL hM
    rintro De ys W hD hS hI hMd hK
    have hlen : ys.length = nkO key + 7 := by rw [show ys = _ from hS]; simp
    unfold IEx at hI
    rw [hlen] at hI
    clear hS hlen
    obtain ⟨jG, JP, JS, JZ⟩ := hI
    obtain ⟨g, hg⟩ : ∃ g, Y (nkO key + 7) = g := ⟨_, rfl⟩
    rw [hg] at JS
    have HG : Hid (Y (nkO key + 7) = g) := hg
    clear hg
    have cs := JS.c
    have cz := JZ.c
    have zz := JZ.z
    gi_wp2
    have hK' := (ko_st4 W q2 g).same De _ hK rfl
    have H6 := arr_kept (JZ.st4 g) (grownBy_putObj' _ De (.deferred none)) (fun r e => by cases e; exact ⟨_, hK', rfl⟩)
    have M6 := Made.kept (Arr.st4o hMd n2 g) (grownBy_putObj' (st4 W q2 g) De (.deferred none)) (fun r e => by cases e; exact ⟨_, hK', rfl⟩)
    refine ⟨by simp, .inl ⟨_, _, rfl, run_takeDeferred hK', ?_⟩⟩
    have ch := H6.c
    simp only [st4] at ch
    refine ⟨bv g, by simp [bv, results, Tryz.results96, go_sem, ch], by rw [HG.out]; rfl, ?_, M6⟩
    exact gb_new (gb_new jG (by have := HQ.out; omega) (gb_st4 W q2 g)) (Nat.le_trans sz hD) (grownBy_putObj' _ De _)
  case stop =>
    rintro D pre W _ _ h
    exact h.elim
theorem encrypted_any (key : ByteArray) (hk : Key key) (b : Nat) (f : Nat → By) (w : World) (hE : Either w b key) :
    Calls Tryz.prog 96 #[.pointer (some ⟨b, 0, none⟩), bv (col f)] w fun e w' => e = .returned (bv (col (encF key f))) ∧ w.grownBy w' (some b) ∧ Made w' b key := by
  refine encrypted_core key hk b (fun i => col (eS key f i)) (fun i => col (rdE key i (eS key f i))) w hE (fun i _ W => plus_any _ _ W) rfl (fun i => col (beF sb (eS key f i))) (fun i => col (tnF (beF sb (eS key f i)))) (fun i => col (mxF 2 3 1 1 (tnF (beF sb (eS key f i)))))
    (fun i W hW => become_any sb b 4 _ W hW) (fun i W => turned_any _ W) (fun i W => mixed_any _ W) ?_ ?_
  · show col (rdE key (nkO key + 6) _) = _
    unfold rdE
    rw [if_neg (by omega), if_pos rfl]
  · intro i h0 h1
    show col (rdE key i _) = _
    unfold rdE
    rw [if_neg h0, if_neg h1]
end Go.Proofs.YtjaljnfijhfkcaaGreatDoor
/- Keys and blocks refused; Encrypt. -/
set_option linter.all false
set_option maxRecDepth 100000
namespace Go.Proofs.YtjaljnfijhfkcaaGreatDoor
open Go.RowKit Go.Sort
def isK (key : ByteArray) : Bool := decide (key.size = 16) || decide (key.size = 32)
theorem isK_iff (key : ByteArray) : isK key = true ↔ Key key := by unfold isK Key; simp
set_option maxHeartbeats 1000000 in
theorem isKey_any (key : ByteArray) (w : World) : Calls Tryz.prog 106 #[.string key] w fun e w' => e = .returned (.bool (isK key)) ∧ w' = w := by
  by_cases h1 : key.size = 16
  · have e : isK key = true := by unfold isK; simp [h1]
    have i1 : (key.size : Int) = 16 := by omega
    rw [e]
    clear e h1
    go_enter Tryz.func106, Tryz.ntmps106
    go_wp2
    go_ret
    exact ⟨rfl, rfl⟩
  · have i1 : ¬ (key.size : Int) = 16 := by omega
    by_cases h2 : key.size = 32
    · have e : isK key = true := by unfold isK; simp [h2]
      have i2 : (key.size : Int) = 32 := by omega
      rw [e]
      clear e h1 h2
      go_enter Tryz.func106, Tryz.ntmps106
      go_wp2
      go_ret
      exact ⟨rfl, rfl⟩
    · have e : isK key = false := by unfold isK; simp [h1, h2]
      have i2 : ¬ (key.size : Int) = 32 := by omega
      rw [e]
      clear e h1 h2
      go_enter Tryz.func106, Tryz.ntmps106
      go_wp2
      go_ret
      refine ⟨?_, rfl⟩
      simp [i1, i2]
/-- What is wrong with a key and a block. -/
def rfs (key block : ByteArray) : Int := if isK key = true then (if block.size = 16 then 0 else 10) else 13
set_option maxHeartbeats 1000000 in
theorem refused_any (key block : ByteArray) (w : World) : Calls Tryz.prog 95 #[.string key, .string block] w fun e w' => e = .returned (.int .i64 (rfs key block)) ∧ w' = w := by
  have C := fun W => isKey_any key W
  have hnot : ∀ (x : Bool) (w : World), (Op.unary .not (.bool x)).run Tryz.prog w = .ok (.bool (!x)) w := fun _ _ => rfl
  unfold rfs
  by_cases h1 : isK key = true
  · rw [h1] at C
    rw [if_pos h1]
    clear h1
    by_cases h2 : block.size = 16
    · have i2 : (block.size : Int) = 16 := by omega
      rw [if_pos h2]
      clear h2
      go_enter Tryz.func95, Tryz.ntmps95
      go_wp2_with (go_at_call 106; refine (C _).mono ?_; rintro e w1 ⟨rfl, rfl⟩)
      go_ret
      exact ⟨rfl, rfl⟩
    · have i2 : ¬ (block.size : Int) = 16 := by omega
      rw [if_neg h2]
      clear h2
      go_enter Tryz.func95, Tryz.ntmps95
      go_wp2_with (go_at_call 106; refine (C _).mono ?_; rintro e w1 ⟨rfl, rfl⟩)
      go_ret
      exact ⟨rfl, rfl⟩
  · have h2 : isK key = false := by simpa using h1
    rw [h2] at C
    rw [if_neg h1]
    clear h1 h2
    go_enter Tryz.func95, Tryz.ntmps95
    go_wp2_with (go_at_call 106; refine (C _).mono ?_; rintro e w1 ⟨rfl, rfl⟩)
    go_ret
    exact ⟨rfl, rfl⟩
/-- A new cipher's cells. -/
def frL (key : ByteArray) : List Value := .string key :: ([.int .u32 0, .int .i32 0, .int .u32 0] ++ List.replicate 256 (.int .u8 0) ++ List.replicate 60 (.int .u32 0) ++ [.int .i64 0])
theorem frL_is (key : ByteArray) : Tryz.zeroCells166.setIfInBounds 0 (Value.string key) = (frL key).toArray := by kernel_rfl
theorem zero63 : Tryz.zeroCells166 = (frL ⟨#[]⟩).toArray := by kernel_rfl
theorem Tryz.info166 : (Tryz.prog.info? 166).map (·.size) = some 321 := by kernel_rfl
theorem frL_len (key : ByteArray) : (frL key).length = 321 := by simp [frL]
theorem frL_at (key : ByteArray) (j : Nat) (hj : j < 321) : (frL key)[j]? = some (cph key 0 0 zT (fun _ => 0) 0 j) := by
  have z0 : ∀ k : Fin 321, (frL ⟨#[]⟩)[k.val]?.map (fun v => match v with | .int _ n => decide (n = 0) | _ => true) = some true := by decide +kernel
  unfold frL cph zT
  by_cases c0 : j = 0
  · subst c0; rfl
  · rw [if_neg c0]
    obtain ⟨i, rfl⟩ : ∃ i, j = i + 1 := ⟨j - 1, by omega⟩
    rw [List.getElem?_cons_succ]
    by_cases c1 : i < 3
    · have : i = 0 ∨ i = 1 ∨ i = 2 := by omega
      rcases this with rfl | rfl | rfl <;> rfl
    · rw [if_neg (by omega), if_neg (by omega), if_neg (by omega)]
      by_cases c2 : i < 259
      · rw [if_pos (by omega), List.getElem?_append_left (by simp; omega), List.getElem?_append_left (by simp; omega), List.getElem?_append_right (by simp; omega), List.getElem?_replicate, if_pos (by simp; omega)]
      · rw [if_neg (by omega)]
        by_cases c3 : i < 319
        · rw [if_pos (by omega), List.getElem?_append_left (by simp; omega), List.getElem?_append_right (by simp; omega), List.getElem?_replicate, if_pos (by simp; omega)]
        · rw [if_neg (by omega), List.getElem?_append_right (by simp; omega)]
          have : i = 319 := by omega
          subst this
          rfl
theorem frL_one (key : ByteArray) : ∀ v ∈ frL key, v.oneCell' = true := by
  intro v hv
  simp only [frL, List.mem_cons, List.mem_append, List.mem_replicate, List.not_mem_nil, or_false] at hv
  rcases hv with rfl | (((rfl | rfl | rfl) | ⟨_, rfl⟩) | ⟨_, rfl⟩) | rfl <;> rfl
theorem fresh_zero (w : World) : Arr (w.alloc (.cells Tryz.zeroCells166 166)) w.heap.size 321 (cph ⟨#[]⟩ 0 0 zT (fun _ => 0) 0) :=
  Arr.new _ _ 166 _ rfl _ 321 (fun j hj => by rw [zero63, List.getElem?_toArray]; exact frL_at _ j hj)
theorem fresh_new (w : World) (key : ByteArray) : Fresh ((w.alloc (.cells Tryz.zeroCells166 166)).setCells w.heap.size 0 (frL key)) w.heap.size key :=
  Arr.sets (fresh_zero w) (frL key) (frL_len key) _ (frL_at key)
theorem fresh_below (w : World) (key : ByteArray) : Below w.heap.size w ((w.alloc (.cells Tryz.zeroCells166 166)).setCells w.heap.size 0 (frL key)) :=
  below_setCells ((Below.refl _ w).alloc (Nat.le_refl _) _) (Nat.le_refl _) _ _
theorem fresh_size (w : World) (key : ByteArray) : ((w.alloc (.cells Tryz.zeroCells166 166)).setCells w.heap.size 0 (frL key)).heap.size = w.heap.size + 1 := by rw [size_sets]; simp
/-- What Encrypt answers. -/
def encS (key block : ByteArray) : ByteArray := tx (encF key (bF block))
theorem rfs_0 {key block : ByteArray} (h : rfs key block = 0) : Key key ∧ block.size = 16 := by
  unfold rfs at h
  by_cases h1 : isK key = true
  · rw [if_pos h1] at h
    by_cases h2 : block.size = 16
    · exact ⟨(isK_iff key).1 h1, h2⟩
    · rw [if_neg h2] at h; omega
  · rw [if_neg h1] at h; omega
set_option maxHeartbeats 2000000 in
theorem encrypt_no (key block : ByteArray) (h : rfs key block ≠ 0) (w : World) :
    Calls Tryz.prog 76 #[.string key, .string block] w fun e w' => e = .returned (.tuple #[.string ⟨#[]⟩, .int .i64 (rfs key block)]) ∧ w' = w := by
  have C := fun W => refused_any key block W
  generalize rfs key block = r at *
  go_enter Tryz.func76, Tryz.ntmps76
  go_wp2_with (go_at_call 95; refine (C _).mono ?_; rintro e w1 ⟨rfl, rfl⟩)
  refine bodyPost_ret (v := .tuple #[.string ⟨#[]⟩, .int .i64 r]) (by simp [results, Tryz.results76, go_sem]) rfl ?_
  exact ⟨rfl, rfl⟩
set_option maxHeartbeats 4000000 in
theorem encrypt_core (key block : ByteArray) (x y : Nat → Int) (T : ByteArray) (L : List Value) (w : World) (HL : Hid (L = frL key))
    (C28 : ∀ W, Calls Tryz.prog 95 #[.string key, .string block] W fun e w' => e = .returned (.int .i64 0) ∧ w' = W)
    (C30 : ∀ W, Calls Tryz.prog 97 #[.string block] W fun e w' => e = .returned (bv x) ∧ Below W.heap.size W w')
    (C29 : ∀ b W, Fresh W b key → Calls Tryz.prog 96 #[.pointer (some ⟨b, 0, none⟩), bv x] W fun e w' => e = .returned (bv y) ∧ W.grownBy w' (some b) ∧ Made w' b key)
    (C25 : ∀ W, Calls Tryz.prog 98 #[bv y] W fun e w' => e = .returned (.string T) ∧ Below W.heap.size W w') :
    Calls Tryz.prog 76 #[.string key, .string block] w fun e w' => e = .returned (.tuple #[.string T, .int .i64 0]) ∧ Below w.heap.size w w' := by
  go_enter Tryz.func76, Tryz.ntmps76
  go_wp2_with fail
  refine (C28 _).mono ?_
  rintro e w1 ⟨rfl, rfl⟩
  clear C28
  go_upto_region 4 with (fail)
  refine wp_region_list ?_
  refine wpList_plain (by rfl) fun K1 hK1 => ?_
  have H1 : Hid _ := hK1
  clear hK1
  go_wp2_with fail
  refine H1.out _ _ ?_
  clear H1
  refine wpList_plain (by rfl) fun K1 hK1 => ?_
  have H1 : Hid _ := hK1
  clear hK1
  go_wp2_with fail
  refine H1.out _ _ ?_
  clear H1
  rw [frL_is, ← HL.out]
  have HS : L.toArray.size = 321 := by rw [HL.out, List.size_toArray, frL_len]
  refine wpList_plain (by rfl) fun K1 hK1 => ?_
  have H1 : Hid _ := hK1
  clear hK1
  go_wp2_with fail
  refine H1.out _ _ ?_
  clear H1
  refine wpList_store_mid (by rfl) 166 (.tmp 7) (.tmp 15) (by rfl) _ _ L.toArray (by rfl) (by rfl) (by rw [HS]; exact (fresh_zero _).there) (by rw [HS]; exact Tryz.info166) (by rw [HL.out]; exact all_oneCell_toArray (frL_one key)) ?_
  refine wpList_nil ?_
  have F := fresh_new w1 key
  have B := fresh_below w1 key
  have eL : L.toArray.toList = L := rfl
  rw [eL]
  rw [← HL.out] at F B
  clear eL HS
  generalize (w1.alloc (.cells Tryz.zeroCells166 166)).setCells w1.heap.size 0 L = w3 at F B ⊢
  go_wp2_with fail
  refine (C30 _).mono ?_
  rintro e w4 ⟨rfl, hb4⟩
  have F4 := Cph.to F hb4
  have B4 := Bel.call B hb4
  clear F B hb4 C30
  go_wp2_with fail
  refine (C29 _ _ F4).mono ?_
  rintro e w5 ⟨rfl, hG, _⟩
  have B5 := gb_below B4 hG (Nat.le_refl _)
  clear F4 B4 hG C29
  go_wp2_with fail
  refine (C25 _).mono ?_
  rintro e w6 ⟨rfl, hb6⟩
  have B6 := Bel.call B5 hb6
  clear B5 hb6 C25
  go_wp2_with fail
  refine bodyPost_ret (v := .tuple #[.string T, .int .i64 0]) (by simp [results, Tryz.results76, go_sem]) rfl ?_
  exact ⟨rfl, B6⟩
theorem encrypt_any (key block : ByteArray) (w : World) :
    Calls Tryz.prog 76 #[.string key, .string block] w fun e w' => e = .returned (.tuple #[.string (if rfs key block = 0 then encS key block else ⟨#[]⟩), .int .i64 (rfs key block)]) ∧ Below w.heap.size w w' := by
  by_cases h : rfs key block = 0
  · obtain ⟨hk, hs⟩ := rfs_0 h
    have C28 := fun W => refused_any key block W
    rw [if_pos h, h] at *
    exact encrypt_core key block (col (bF block)) (col (encF key (bF block))) (encS key block) (frL key) w rfl C28 (fun W => blockOf_any block hs W) (fun b W hF => encrypted_any key hk b _ W (.inl hF)) (fun W => text_b _ W)
  · rw [if_neg h]
    exact (encrypt_no key block h w).mono fun e w' ⟨h1, h2⟩ => ⟨h1, by rw [h2]; exact Below.refl _ _⟩
end Go.Proofs.YtjaljnfijhfkcaaGreatDoor
/- Counting on, and bytes of a stream. -/
set_option linter.all false
set_option maxRecDepth 100000
namespace Go.Proofs.YtjaljnfijhfkcaaGreatDoor
open Go.RowKit Go.Sort
set_option maxHeartbeats 2000000 in
theorem appended_fits (x : Nat → Int) (base n g cap : Nat) (L0 : List Value) (w : World) (hw : w.ownsRow base 5 1 (.slice (some ⟨g, 0, none⟩) n cap) n L0) (hcap : n + 16 ≤ cap) :
    Calls Tryz.prog 100 #[bv x, .slice (some ⟨g, 0, none⟩) n cap] w fun e w' => e = .returned (.slice (some ⟨g, 0, none⟩) (n + 16) cap) ∧ w'.ownsRow base 5 1 (.slice (some ⟨g, 0, none⟩) (n + 16) cap) (n + 16) (L0 ++ (hfL x 4).map (Value.int .u8)) ∧ w.grownBy w' (some g) := by
  obtain ⟨i0, hi, hz0, hz1, hz2⟩ := info_parts Tryz.info5
  unfold bv
  go_enter Tryz.func100, Tryz.ntmps100
  go_wp2_with fail
  go_loopw [1, 8] (fun v i wr => ∃ (k : Nat) (L : List Value), k ≤ 4 ∧ i = .int .i64 k ∧ v = .slice (some ⟨g, 0, none⟩) (n + 4 * k) cap ∧ wr.ownsRow base 5 1 (.slice (some ⟨g, 0, none⟩) (n + 4 * k) cap) (n + 4 * k) L ∧ L = L0 ++ (hfL x k).map (Value.int .u8) ∧ w.grownBy wr (some g))
    (fun _ i _ => 4 - (intOf i).toNat)
  case atStart => exact ⟨0, L0, by omega, rfl, rfl, World.ownsRow.alloc hw _, by simp [hfL], World.grownBy_alloc w _ _⟩
  case round =>
    obtain ⟨k, L, hk, rfl, rfl, hown, hL, hB⟩ := hrel
    by_cases hlt : k < 4
    · have k0 : (0 : Int) ≤ (k : Int) := by omega
      have k1 : (k : Int) < 4 := by omega
      have I := fun W => idx68 _ k _ hlt (h4_at x k hlt) W
      have HL : Hid (L0 ++ (hfL x (k + 1)).map (Value.int .u8) = L ++ (w4 (x k)).map (Value.int .u8)) := by
        show _ = _
        rw [hfL, List.map_append, hL, List.append_assoc]
      have HO : Hid (wr.ownsRow base 5 1 (.slice (some ⟨g, 0, none⟩) (n + 4 * k) cap) (n + 4 * k) L) := hown
      have kr : n + 4 * k + 4 ≤ cap := by omega
      have k1c : 0 < cap := by omega
      unfold w4 at HL
      clear hL hown hw
      go_wp2_with (at_builtin; refine stopAt ?_)
      unfold Stop
      refine wpList_append_fits _ rfl _ _ 50 rfl base 5 i0 1 Tryz.underlying50 hi hz1 g (n + 4 * k) cap _ rfl (World.ownsRow.alloc HO.out _) ⟨_, 0, none⟩ 4 4 [.int .u8 (x k / 16777216 % 256), .int .u8 (x k / 65536 % 256), .int .u8 (x k / 256 % 256), .int .u8 (x k % 256)] rfl rfl (news_new _ _ _) (by simp [Value.oneCell']) kr ?_
      intro w3 hown' hgrow3
      have b3 : w.grownBy w3 (some g) := by
        have h1 := gb_trans hB (World.grownBy_alloc wr (.cells #[.int .u8 (x k / 16777216 % 256), .int .u8 (x k / 65536 % 256), .int .u8 (x k / 256 % 256), .int .u8 (x k % 256)] 5) (some g))
        exact gb_trans h1 hgrow3
      clear hgrow3
      go_wp2_with fail
      refine ⟨⟨k + 1, _, by omega, by go_num, by rw [show n + 4 * (k + 1) = n + 4 * k + 4 by omega], by rw [show n + 4 * (k + 1) = n + 4 * k + 4 by omega]; exact hown', HL.out.symm, b3⟩, by simp [intOf]; omega⟩
    · have e : k = 4 := by omega
      subst e
      subst hL
      have HO : Hid (wr.ownsRow base 5 1 (.slice (some ⟨g, 0, none⟩) (n + 16) cap) (n + 16) (L0 ++ (hfL x 4).map (Value.int .u8))) := hown
      clear hown hw
      go_wp2_with fail
      go_ret
      exact ⟨rfl, HO.out, hB⟩
/-- A block's number and 1: byte by byte. -/
def nxF (f : Nat → By) (j : Nat) : By := if (∀ i, i < 16 → j < i → f i = 255) then f j + 1 else f j
theorem add_val (a : By) : (a + 1).val = (a.val + 1) % 256 := by simp [Fin.val_add]
/-- A word and 1. -/
theorem wd_inc (a b c d : By) : (wd a b c d + 1) % 4294967296 = wd (if b = 255 ∧ c = 255 ∧ d = 255 then a + 1 else a) (if c = 255 ∧ d = 255 then b + 1 else b) (if d = 255 then c + 1 else c) (d + 1) := by
  have f : ∀ x : By, x = 255 ↔ x.val = 255 := fun x => ⟨fun h => by rw [h]; rfl, fun h => Fin.ext h⟩
  have := a.2
  have := b.2
  have := c.2
  have := d.2
  unfold wd wdN
  by_cases h1 : d = 255
  · have e1 := (f d).1 h1
    by_cases h2 : c = 255
    · have e2 := (f c).1 h2
      by_cases h3 : b = 255
      · have e3 := (f b).1 h3
        simp only [h1, h2, h3, and_self, if_true, add_val]
        simp
        omega
      · simp only [h1, h2, h3, and_self, false_and, if_true, if_false, add_val]
        have : ¬ b.val = 255 := fun h => h3 ((f b).2 h)
        simp
        omega
    · simp only [h1, h2, and_self, false_and, and_false, if_true, if_false, add_val]
      have : ¬ c.val = 255 := fun h => h2 ((f c).2 h)
      simp
      omega
  · simp only [h1, and_false, if_false, add_val]
    have : ¬ d.val = 255 := fun h => h1 ((f d).2 h)
    omega
theorem wd_ff (a b c d : By) : (wd a b c d + 1) % 4294967296 = 0 ↔ a = 255 ∧ b = 255 ∧ c = 255 ∧ d = 255 := by
  have f : ∀ x : By, x = 255 ↔ x.val = 255 := fun x => ⟨fun h => by rw [h]; rfl, fun h => Fin.ext h⟩
  have := a.2
  have := b.2
  have := c.2
  have := d.2
  rw [f, f, f, f]
  unfold wd wdN
  constructor
  · intro h
    omega
  · rintro ⟨h1, h2, h3, h4⟩
    rw [h1, h2, h3, h4]
    rfl
/-- The columns behind c are full. -/
def fl (f : Nat → By) (c : Nat) : Prop := ∀ i, i < 16 → 4 * c + 3 < i → f i = 255
theorem fl_step (f : Nat → By) (c : Nat) (hc : c < 4) (h : fl f (c + 1)) (e : (col f (c + 1) + 1) % 4294967296 = 0) (hc1 : c + 1 < 4) : fl f c := by
  unfold col at e
  obtain ⟨h0, h1, h2, h3⟩ := (wd_ff _ _ _ _).1 e
  intro i hi hl
  by_cases g : 4 * (c + 1) + 3 < i
  · exact h i hi g
  · have : i = 4 * (c + 1) ∨ i = 4 * (c + 1) + 1 ∨ i = 4 * (c + 1) + 2 ∨ i = 4 * (c + 1) + 3 := by omega
    rcases this with rfl | rfl | rfl | rfl <;> assumption
theorem col_nx (f : Nat → By) (c : Nat) (hc : c < 4) (h : fl f c) : col (nxF f) c = (col f c + 1) % 4294967296 := by
  unfold col
  rw [wd_inc]
  have e3 : nxF f (4 * c + 3) = f (4 * c + 3) + 1 := by unfold nxF; rw [if_pos (fun i hi hl => h i hi hl)]
  have e2 : nxF f (4 * c + 2) = if f (4 * c + 3) = 255 then f (4 * c + 2) + 1 else f (4 * c + 2) := by
    unfold nxF
    by_cases g : f (4 * c + 3) = 255
    · rw [if_pos g, if_pos]
      intro i hi hl
      by_cases q : i = 4 * c + 3
      · rw [q]; exact g
      · exact h i hi (by omega)
    · rw [if_neg g, if_neg]
      intro H
      exact g (H _ (by omega) (by omega))
  have e1 : nxF f (4 * c + 1) = if f (4 * c + 2) = 255 ∧ f (4 * c + 3) = 255 then f (4 * c + 1) + 1 else f (4 * c + 1) := by
    unfold nxF
    by_cases g : f (4 * c + 2) = 255 ∧ f (4 * c + 3) = 255
    · rw [if_pos g, if_pos]
      intro i hi hl
      by_cases q : i = 4 * c + 3
      · rw [q]; exact g.2
      · by_cases q : i = 4 * c + 2
        · rw [q]; exact g.1
        · exact h i hi (by omega)
    · rw [if_neg g, if_neg]
      intro H
      exact g ⟨H _ (by omega) (by omega), H _ (by omega) (by omega)⟩
  have e0 : nxF f (4 * c) = if f (4 * c + 1) = 255 ∧ f (4 * c + 2) = 255 ∧ f (4 * c + 3) = 255 then f (4 * c) + 1 else f (4 * c) := by
    unfold nxF
    by_cases g : f (4 * c + 1) = 255 ∧ f (4 * c + 2) = 255 ∧ f (4 * c + 3) = 255
    · rw [if_pos g, if_pos]
      intro i hi hl
      by_cases q : i = 4 * c + 3
      · rw [q]; exact g.2.2
      · by_cases q : i = 4 * c + 2
        · rw [q]; exact g.2.1
        · by_cases q : i = 4 * c + 1
          · rw [q]; exact g.1
          · exact h i hi (by omega)
    · rw [if_neg g, if_neg]
      intro H
      exact g ⟨H _ (by omega) (by omega), H _ (by omega) (by omega), H _ (by omega) (by omega)⟩
  rw [e0, e1, e2, e3]
theorem col_nx_no (f : Nat → By) (c k : Nat) (hk : k < 4) (hck : c < k) (e : ¬ (col f k + 1) % 4294967296 = 0) : col (nxF f) c = col f c := by
  unfold col at e
  have ne : ¬ (f (4 * k) = 255 ∧ f (4 * k + 1) = 255 ∧ f (4 * k + 2) = 255 ∧ f (4 * k + 3) = 255) := fun h => e ((wd_ff _ _ _ _).2 h)
  have no : ∀ j, j < 4 * k → nxF f j = f j := fun j hj => by
    unfold nxF
    rw [if_neg]
    intro H
    exact ne ⟨H _ (by omega) (by omega), H _ (by omega) (by omega), H _ (by omega) (by omega), H _ (by omega) (by omega)⟩
  unfold col
  rw [no _ (by omega), no _ (by omega), no _ (by omega), no _ (by omega)]
/-- The columns from k on are done. -/
def dn (y x : Nat → Int) (k : Nat) (j : Nat) : Value := .int .u32 (if k ≤ j then y j else x j)
set_option maxHeartbeats 2000000 in
theorem next_core (x g : Nat → Int) (F : Nat → Prop) (hF3 : F 3) (hF : ∀ k, k < 3 → F (k + 1) → (x (k + 1) + 1) % 4294967296 = 0 → F k)
    (hg : ∀ k, k < 4 → F k → g k = (x k + 1) % 4294967296) (hn : ∀ k c, k < 4 → c < k → ¬ (x k + 1) % 4294967296 = 0 → g c = x c) (w : World) :
    Calls Tryz.prog 114 #[bv x] w fun e w' => e = .returned (bv g) ∧ Below w.heap.size w w' := by
  unfold bv
  go_enter Tryz.func114, Tryz.ntmps114
  go_wp2_with fail
  go_loopw [3] (fun i wr => ∃ k q : Nat, k ≤ 4 ∧ k = q ∧ i = .int .i64 ((q : Int) - 1) ∧ Below w.heap.size w wr ∧ Arr wr w.heap.size 4 (dn g x k) ∧ Arr wr (w.heap.size + 1) 4 (fun _ => .int .u32 0) ∧ (∀ m, k = m + 1 → F m)) (fun i _ => (intOf i + 1).toNat)
  case atStart =>
    refine ⟨4, 4, by omega, rfl, rfl, by go_grown, ?_, ?_, ?_⟩
    · refine ((Arr.new w _ _ _ rfl _ 4 (h4_at x)).al' _).congr fun j hj => ?_
      unfold dn
      rw [if_neg (by omega)]
    · exact Arr.new _ _ _ _ (by simp) _ 4 z4_at
    · intro m hm
      obtain rfl : m = 3 := by omega
      exact hF3
  case round =>
    obtain ⟨k, q, hk, hkq, rfl, hB, A0, A1, hf⟩ := hrel
    by_cases hlt : 0 < q
    · obtain ⟨p, rfl⟩ : ∃ p, q = p + 1 := ⟨q - 1, by omega⟩
      have ep : ((p + 1 : Nat) : Int) - 1 = (p : Int) := by omega
      rw [ep]
      clear ep
      subst hkq
      have hFp := hf p rfl
      have p4 : p < 4 := by omega
      have i0 : (0 : Int) ≤ (p : Int) := by omega
      have i4 : (p : Int) < 4 := by omega
      have cp := A0.cv p p4 (.int .u32 (x p)) (by unfold dn; rw [if_neg (by omega)])
      have zp := A0.z p p4
      have gp := hg p p4 hFp
      have A2 := A0.set p p4 (.int .u32 (g p))
      have Z2 := A1.other (b' := w.heap.size) (k := p) (by omega) (.int .u32 (g p))
      have B2 := Bel.st hB (Nat.le_refl _) (k := p) (.int .u32 (g p))
      by_cases hz : (x p + 1) % 4294967296 = 0
      · have HF : Hid (∀ m, p = m + 1 → F m) := fun m hm => hF m (by omega) (by rw [← hm]; exact hFp) (by rw [← hm]; exact hz)
        have g0 : g p = 0 := by rw [gp, hz]
        clear hg hn hF hF3 hf hFp gp
        rw [g0] at A2 Z2 B2
        have HG : Hid (g p = 0) := g0
        clear g0
        go_wp2_with fail
        refine ⟨⟨p, p, by omega, rfl, by go_num, B2, A2.congr ?_, Z2, HF.out⟩, by first | (simp [intOf]; done) | (simp [intOf]; omega)⟩
        intro j hj
        unfold dn
        by_cases e : j = p
        · subst e; rw [if_pos rfl, if_pos (Nat.le_refl _), HG.out]
        · rw [if_neg e]
          by_cases e2 : p + 1 ≤ j
          · rw [if_pos e2, if_pos (by omega)]
          · rw [if_neg e2, if_neg (by omega)]
      · have A : Arr (wr.setCell ⟨w.heap.size, p, none⟩ (.int .u32 (g p))) w.heap.size 4 (fun j => .int .u32 (g j)) := A2.congr fun j hj => by
          by_cases e : j = p
          · subst e; rw [if_pos rfl]
          · rw [if_neg e]
            unfold dn
            by_cases e2 : p + 1 ≤ j
            · rw [if_pos e2]
            · rw [if_neg e2, hn p j p4 (by omega) hz]
        have gz : ¬ g p = 0 := by rw [gp]; exact hz
        have gq : (x p + 1) % 4294967296 = g p := gp.symm
        clear hg hn hF hF3 hf hFp gp hz A2 A0 A1 hB
        have c9 := A.c p p4
        obtain ⟨w9, hw9⟩ : ∃ w9, wr.setCell ⟨w.heap.size, p, none⟩ (.int .u32 (g p)) = w9 := ⟨_, rfl⟩
        rw [hw9] at A Z2 B2 c9
        have Z := Z2
        have BB := B2
        go_upto_region 5 with (fail)
        try rw [hw9]
        clear hw9 cp zp
        have c0 := A.c 0 (by omega)
        have c1 := A.c 1 (by omega)
        have c2 := A.c 2 (by omega)
        have c3 := A.c 3 (by omega)
        have d := Z.c
        have z := Z.z
        have E := (Z.st4 g).c
        go_wp2_with fail
        refine bodyPost_ret (v := bv g) ?_ rfl ⟨rfl, Bel.st4 BB (by omega) g⟩
        simp only [Go.Proofs.YtjaljnfijhfkcaaGreatDoor.st4] at E
        simp [bv, results, Tryz.results114, go_sem, E]
    · have q0 : q = 0 := by omega
      subst q0
      subst hkq
      have A : Arr wr w.heap.size 4 (fun j => .int .u32 (g j)) := A0.congr fun j _ => by unfold dn; rw [if_pos (Nat.zero_le _)]
      have Z := A1
      have BB := hB
      rw [show (((0 : Nat) : Int) - 1) = -1 by omega]
      have c0 := A.c 0 (by omega)
      have c1 := A.c 1 (by omega)
      have c2 := A.c 2 (by omega)
      have c3 := A.c 3 (by omega)
      have d := Z.c
      have z := Z.z
      have E := (Z.st4 g).c
      clear A0 A1 hB hk hlt hg hn hF hF3 hf
      go_wp2_with fail
      refine bodyPost_ret (v := bv g) ?_ rfl ⟨rfl, Bel.st4 BB (by omega) g⟩
      simp only [Go.Proofs.YtjaljnfijhfkcaaGreatDoor.st4] at E
      simp [bv, results, Tryz.results114, go_sem, E]
theorem next_any (f : Nat → By) (w : World) : Calls Tryz.prog 114 #[bv (col f)] w fun e w' => e = .returned (bv (col (nxF f))) ∧ Below w.heap.size w w' :=
  next_core (col f) (col (nxF f)) (fl f) (fun i hi hl => by omega) (fun k hk h e => fl_step f k (by omega) h e (by omega)) (fun k hk h => col_nx f k hk h) (fun k c hk hc e => col_nx_no f c k hk hc e) w
end Go.Proofs.YtjaljnfijhfkcaaGreatDoor
/- Blocks counted on from a first one, handed out without an end. -/
set_option linter.all false
set_option maxRecDepth 100000
namespace Go.Proofs.YtjaljnfijhfkcaaGreatDoor
open Go.RowKit Go.Shelf Go.Sort
attribute [local go_sem] Oper.semAt_some
theorem wpIn_loop_ghost {F : Fence} {m : Nat} {P : Program} {Q : Exit → Act → World → Prop} {a : Act} {w : World} {c : Code} (I : Nat → Act → World → Prop) (n₀ : Nat) (h₀ : I n₀ a w)
    (round : ∀ n a w, I n a w → c.wpIn F m P (Exit.then (fun a' w' => ∃ n', n' < n ∧ I n' a' w') Q) a w) : (Code.loop c).wpIn F m P Q a w := by
  refine wpIn_loop (fun a w => ∃ n, I n a w) (fun a w => leastOf (fun n => I n a w)) ⟨n₀, h₀⟩ ?_
  intro a w hI
  refine wpIn_mono (round _ a w (leastOf_spec hI).1) ?_
  intro e a' w' hq
  cases e with
  | normal =>
    obtain ⟨n', hn, hi⟩ := hq
    exact ⟨⟨n', hi⟩, Nat.lt_of_le_of_lt ((leastOf_spec ⟨n', hi⟩).2 n' hi) hn⟩
  | ret => exact hq
  | exit id => exact hq
  | goto t => exact hq
  | panic ch => exact hq
  | outgrown => exact hq
/-- The k-th block behind a first one. -/
def ctF (f : Nat → By) : Nat → Nat → By
  | 0 => f
  | k + 1 => nxF (ctF f k)
/-- What a round keeps: all blocks of cells but three. -/
def KC (x0 x1 x2 : Nat) (W W' : World) : Prop := ∀ b n f, b ≠ x0 → b ≠ x1 → b ≠ x2 → Arr W b (n + 1) f → Arr W' b (n + 1) f
theorem KC.t {x0 x1 x2 : Nat} {A B C : World} (h1 : KC x0 x1 x2 A B) (h2 : KC x0 x1 x2 B C) : KC x0 x1 x2 A C := fun b n f e0 e1 e2 h => h2 b n f e0 e1 e2 (h1 b n f e0 e1 e2 h)
theorem KC.b {x0 x1 x2 : Nat} (W : World) (l : Nat) (o o' : Obj) (hl : W.heap[l]? = some o) (hc : o.isCells = false) : KC x0 x1 x2 W (W.putObj l o') :=
  fun b n f _ _ _ h => arr_kept h (grownBy_putObj' W l o') (fun r e => by cases e; exact ⟨o, hl, hc⟩)
theorem KC.g {x0 x1 x2 : Nat} (A B : World) (h : A.grownBy B none) : KC x0 x1 x2 A B := fun b n f _ _ _ hA => arr_kept hA h (fun r e => by cases e)
theorem KC.one {x0 x1 x2 x : Nat} {A B : World} (h : A.grownBy B (some x)) (hx : x = x0 ∨ x = x1 ∨ x = x2) : KC x0 x1 x2 A B := fun b n f e0 e1 e2 hA => gb_arr h (by omega) hA
def MkC (pre : List Nat) (x : Nat) (W : World) : Prop := x = pre.length ∧ pre = List.range x
def encC (f : Nat → By) (x : Nat) : Array Value := #[bv (col (ctF f x))]
set_option maxHeartbeats 4000000 in
theorem counted1_in (f : Nat → By) (n l bx x0 x1 x2 N : Nat) (hn : 1 ≤ n) (Jv Jx : List Nat → World → Prop) {B : Nat} (hJ : AbidesFrom B Jv) (hN : ∀ s A, Jv s A → s.length < N)
    (hY : ∀ pre (x : Nat) W, Jv pre W → MkC pre x W → YieldAt Fence.wide (n - 1) Tryz.prog l (encC f x) W fun e W' => (e = .returned (.bool true) ∧ Jv (pre ++ [x]) W' ∧ KC x0 x1 x2 W W') ∨ (e = .returned (.bool false) ∧ Jx (pre ++ [x]) W'))
    (W : World) (h0' : x0 < W.heap.size) (h1' : x1 < W.heap.size) (h2' : x2 < W.heap.size) (hA : Arr W bx 4 (fun j => .int .u32 (col f j))) (h0 : Jv [] W) :
    CallsIn Fence.wide n Tryz.prog 113 #[.func (.yield l) #[] #[], .pointer (some ⟨bx, 0, none⟩)] W fun e W' => (∃ v, e = .returned v) ∧
      ((∃ ys : List Nat, False ∧ Jv ys W' ∧ True) ∨ (∃ pre : List Nat, True ∧ Jx pre W')) := by
  have hd : 1 ≤ n := hn
  refine callsIn_of_wp Tryz.func113 rfl trivial ?_ rfl
  simp only [Tryz.ntmps113, List.size_toArray, List.length_cons, List.length_nil, Nat.reduceAdd, Nat.reduceSub, Array.replicate_succ, Array.replicate_zero, List.push_toArray, List.append_toArray, List.nil_append, List.cons_append]
  have cb := hA.c
  gi_wp2
  refine wpIn_loop_ghost (fun g a wr => ∃ (k p : Nat) (u5 u6 u7 u8 u9 u10 : Value), a = { tmps := #[.func (.yield l) #[] #[], .pointer (some ⟨bx, 0, none⟩), undef, .pointer (some ⟨p, 0, none⟩), .agg #[.int .u32 (col f 0), .int .u32 (col f 1), .int .u32 (col f 2), .int .u32 (col f 3)], u5, u6, u7, u8, u9, u10], defers := [] } ∧ g + k = N ∧ Jv (List.range k) wr ∧ Arr wr p 4 (fun j => .int .u32 (col (ctF f k) j)) ∧ W.heap.size ≤ p) N ?start ?round
  case start =>
    refine ⟨0, W.heap.size, _, _, _, _, _, _, rfl, by omega, ?_, Arr.new _ _ 168 _ rfl _ 4 (h4_at _), Nat.le_refl _⟩
    exact hJ _ W _ none h0 (World.grownBy_alloc W _ none) (fun r e => by cases e)
  case round =>
    clear h0 cb hA
    rintro g a wr ⟨k, p, u5, u6, u7, u8, u9, u10, rfl, hgk, hJs, hP, hp⟩
    have hkN := hN _ _ hJs
    rw [List.length_range] at hkN
    have cp := hP.c
    obtain ⟨fn, tmps, assign, body, hy, hR⟩ := hY (List.range k) k wr hJs ⟨by simp, rfl⟩
    unfold encC bv at hy
    have NX := fun A => next_any (ctF f k) A
    have HCT : Hid (ctF f (k + 1) = nxF (ctF f k)) := rfl
    have HGK : Hid (g + k = N) := hgk
    clear hJs hgk
    unfold bv at NX
    obtain ⟨y, hy2⟩ : ∃ y, col (ctF f k) = y := ⟨_, rfl⟩
    obtain ⟨z, hz2⟩ : ∃ z, col (nxF (ctF f k)) = z := ⟨_, rfl⟩
    rw [hy2] at hy cp hP NX
    rw [hz2] at NX
    have HZ : Hid (col (nxF (ctF f k)) = z) := hz2
    clear hy2 hz2
    gi_wp2
    refine hR.mono ?_
    rintro e W3 (⟨rfl, hJ3, hK⟩ | ⟨rfl, hJx3⟩)
    · have P3 := hK p 3 _ (by omega) (by omega) (by omega) hP
      have c3 := P3.c
      clear cp hP hy hR
      gi_wp2_with (refine ⟨trivial, ?_⟩; gi_at_call 114; refine (callsIn_wide.2 (NX _)).mono ?_; rintro e W4 ⟨rfl, hb⟩; have N4 := (Arr.new W3 #[.int .u32 (y 0), .int .u32 (y 1), .int .u32 (y 2), .int .u32 (y 3)] 168 _ rfl (fun j => .int .u32 (y j)) 4 (h4_at y)).to' hb; have c4 := N4.c; have z4 := N4.z)
      have jB : Below W3.heap.size W3 (st4 W4 W3.heap.size z) := Bel.st4 (Bel.call (Bel.al (Below.refl _ W3) _) hb) (Nat.le_refl _) z
      refine ⟨g - 1, by have := HGK.out; omega, k + 1, W3.heap.size, _, _, _, _, _, _, rfl, by have := HGK.out; omega, ?_, ?_, ?_⟩
      · rw [List.range_succ]
        exact hJ _ W3 _ none hJ3 (gby jB) (fun r e => by cases e)
      · have := N4.st4 z
        rw [← HZ.out, ← HCT.out] at this ⊢
        exact this
      · have := P3.lt
        omega
    · gi_wp2
      go_end0
      exact ⟨⟨_, rfl⟩, .inr ⟨_, trivial, hJx3⟩⟩
theorem counted_seq (f : Nat → By) (n bx x0 x1 x2 N : Nat) (hn : 1 ≤ n) (w0 : World) (h0 : x0 < w0.heap.size) (h1 : x1 < w0.heap.size) (h2 : x2 < w0.heap.size) (hA : Arr w0 bx 4 (fun j => .int .u32 (col f j))) :
    SeqM Fence.wide n Tryz.prog 113 #[.pointer (some ⟨bx, 0, none⟩)] (encC f) (KC x0 x1 x2) MkC (fun s => s.length < N) (fun _ => False) (fun _ => True) none (fun _ => True) w0 :=
  fun l Jv Jx W hW hJ _ _ hB hY hj => counted1_in f n l bx x0 x1 x2 N hn Jv Jx hJ hB hY W (Nat.lt_of_lt_of_le h0 hW.size) (Nat.lt_of_lt_of_le h1 hW.size) (Nat.lt_of_lt_of_le h2 hW.size) (hA.to' hW) hj
theorem counted_any (x : Nat → Int) (w : World) : Calls Tryz.prog 99 #[bv x] w fun e w' => e = .returned (.func (.func 113) #[] #[.pointer (some ⟨w.heap.size, 0, none⟩)]) ∧ w' = w.alloc (.cells #[.int .u32 (x 0), .int .u32 (x 1), .int .u32 (x 2), .int .u32 (x 3)] 168) := by
  unfold bv
  go_enter Tryz.func99, Tryz.ntmps99
  go_wp2
  go_ret
  exact ⟨rfl, rfl⟩
end Go.Proofs.YtjaljnfijhfkcaaGreatDoor
/- The blocks that are hashed, handed out. -/
set_option linter.all false
set_option maxRecDepth 100000
namespace Go.Proofs.YtjaljnfijhfkcaaGreatDoor
open Go.RowKit Go.Shelf Go.Sort Lin
attribute [local go_sem] Oper.semAt_some
/-- A text's first k blocks. -/
def bk16 (t : ByteArray) (k : Nat) : List Nat := (List.range k).map fun j => bN (t.extract (16 * j) t.size)
theorem bk16_succ (t : ByteArray) (k : Nat) : bk16 t (k + 1) = bk16 t k ++ [bN (t.extract (16 * k) t.size)] := by simp [bk16, List.range_succ]
def bls (t : ByteArray) : List Nat := bk16 t ((t.size + 15) / 16)
/-- The block that says how many bits both have. -/
def lenB (a s : ByteArray) : Nat := 8 * a.size * 2 ^ 64 + 8 * s.size
def hBl (a s : ByteArray) : List Nat := bls a ++ bls s ++ [lenB a s]
def tw (a s : ByteArray) (i : Nat) : ByteArray := if i = 0 then a else s
def pf (a s : ByteArray) : Nat → List Nat
  | 0 => []
  | i + 1 => pf a s i ++ bls (tw a s i)
theorem idx69 (a s : ByteArray) (k : Nat) (hk : k < 2) (W : World) : (Instr.index 188 (.agg #[.string a, .string s]) (.int .i64 (k : Int))).run Tryz.prog W = .ok (.string (tw a s k)) W := by
  have h0 : (0 : Int) ≤ (k : Int) ∧ (k : Int) < ((2 : Nat) : Int) := by omega
  have hs : (Go.sizeOf 9).run Tryz.prog W = .ok 1 W := by kernel_rfl
  simp only [Instr.index, asIntOf, Sem.run_bind, Sem.run_pure, Result.andThen_ok, run_underlying Tryz.underlying188]
  rw [Sem.run_ite, if_pos h0]
  simp only [Sem.run_bind, hs, Result.andThen_ok, Int.toNat_natCast, Nat.mul_one]
  have ha : (isAgg 9).run Tryz.prog W = .ok false W := by kernel_rfl
  have : k = 0 ∨ k = 1 := by omega
  rcases this with rfl | rfl <;> simp [part, Sem.run_bind, ha, tw]
set_option maxHeartbeats 1000000 in
theorem gblocks1_in (a s : ByteArray) (ha : a.size ≤ 1000000) (hs : s.size ≤ 1000000) (n l q b1 b2 : Nat) (hn : 1 ≤ n) (Jv Jx : List Nat → World → Prop) {B : Nat} (hJ : AbidesFrom B Jv)
    (hY : ∀ pre (x : Nat) W, Jv pre W → x < 2 ^ 128 → YieldAt Fence.wide (n - 1) Tryz.prog l #[gB x] W fun e W' => (e = .returned (.bool true) ∧ Jv (pre ++ [x]) W' ∧ KC q q q W W') ∨ (e = .returned (.bool false) ∧ Jx (pre ++ [x]) W'))
    (W : World) (n1 : b1 ≠ q) (n2 : b2 ≠ q) (A1 : Arr W b1 1 (fun _ => .string a)) (A2 : Arr W b2 1 (fun _ => .string s)) (h0 : Jv [] W) :
    CallsIn Fence.wide n Tryz.prog 115 #[.func (.yield l) #[] #[], .pointer (some ⟨b1, 0, none⟩), .pointer (some ⟨b2, 0, none⟩)] W fun e W' => (∃ v, e = .returned v) ∧
      ((∃ ys : List Nat, ys = hBl a s ∧ Jv ys W' ∧ True) ∨ (∃ pre : List Nat, True ∧ Jx pre W')) := by
  have hd : 1 ≤ n := hn
  refine callsIn_of_wp Tryz.func115 rfl trivial ?_ rfl
  simp only [Tryz.ntmps115, List.size_toArray, List.length_cons, List.length_nil, Nat.reduceAdd, Nat.reduceSub, Array.replicate_succ, Array.replicate_zero, List.push_toArray, List.append_toArray, List.nil_append, List.cons_append]
  have c1 := A1.c 0 (by omega)
  have c2 := A2.c 0 (by omega)
  have hnot : ∀ (x : Bool) (w : World), (Op.unary .not (.bool x)).run Tryz.prog w = .ok (.bool (!x)) w := fun _ _ => rfl
  gi_wp2
  gi_loopw [10] (fun i wr => ∃ k : Nat, k ≤ 2 ∧ i = .int .i64 k ∧ Jv (pf a s k) wr ∧ Arr wr b1 1 (fun _ => .string a) ∧ Arr wr b2 1 (fun _ => .string s)) (fun i _ => 2 - (intOf i).toNat)
  case atStart => exact ⟨0, by omega, rfl, h0, A1, A2⟩
  case round =>
    clear A1 A2 h0 c1 c2
    obtain ⟨i, hi2, rfl, hJs, A1, A2⟩ := hrel
    by_cases hlt : i < 2
    · have i0 : (0 : Int) ≤ (i : Int) := by omega
      have i2 : (i : Int) < 2 := by omega
      have I := fun W => idx69 a s i hlt W
      have HP : Hid (pf a s (i + 1) = pf a s i ++ bls (tw a s i)) := rfl
      have ht : (tw a s i).size ≤ 1000000 := by unfold tw; split <;> assumption
      generalize tw a s i = t at *
      generalize pf a s i = ps at *
      have t1 : (t.size : Int) ≤ 1000000 := by omega
      gi_wp2
      gi_loopw [6] (fun z wr => ∃ k : Nat, 16 * k < t.size + 16 ∧ z = .int .i64 (16 * (k : Int)) ∧ Jv (ps ++ bk16 t k) wr ∧ Arr wr b1 1 (fun _ => .string a) ∧ Arr wr b2 1 (fun _ => .string s)) (fun z _ => t.size + 16 - (intOf z).toNat)
      case atStart => exact ⟨0, by omega, rfl, by simpa [bk16] using hJs, A1, A2⟩
      case round =>
        clear A1 A2 hJs I
        obtain ⟨k, hk, rfl, hJs, A1, A2⟩ := hrel
        by_cases hlk : 16 * k < t.size
        · have k0 : (0 : Int) ≤ 16 * (k : Int) := by omega
          have k2 : 16 * (k : Int) < (t.size : Int) := by omega
          have bo := gblockOf_any (t.extract (16 * k) t.size) wr
          have HB : Hid (bk16 t (k + 1) = bk16 t k ++ [bN (t.extract (16 * k) t.size)]) := bk16_succ t k
          have bl := bN_lt (t.extract (16 * k) t.size)
          generalize bN (t.extract (16 * k) t.size) = x at *
          gi_wp2_with (refine ⟨trivial, ?_⟩; gi_at_call 70; refine (callsIn_wide.2 bo).mono ?_; rintro e w2 ⟨rfl, hb⟩; have hJ2 := hJ _ wr w2 none hJs (gby hb) (fun r e => by cases e); have hA1 := A1.to' hb; have hA2 := A2.to' hb; obtain ⟨fn, tmps, assign, body, hy, hR⟩ := hY _ x w2 hJ2 bl; clear hJs A1 A2 hb bo)
          refine hR.mono ?_
          rintro e W3 (⟨rfl, hJ3, hK⟩ | ⟨rfl, hJx3⟩)
          · gi_wp2
            refine ⟨⟨k + 1, by omega, by congr 1, ?_, hK _ _ _ n1 n1 n1 hA1, hK _ _ _ n2 n2 n2 hA2⟩, by first | (simp [intOf]; done) | (simp [intOf]; omega)⟩
            rw [HB.out, ← List.append_assoc]
            exact hJ3
          · gi_wp2
            refine bodyPost_ret (results_none rfl _ _ _) rfl ?_
            exact ⟨⟨_, rfl⟩, .inr ⟨_, trivial, hJx3⟩⟩
        · have k2 : ¬ 16 * (k : Int) < (t.size : Int) := by omega
          have HE : Hid (ps ++ bk16 t k = ps ++ bls t) := by
            show _ = _
            unfold bls
            rw [show (t.size + 15) / 16 = k by omega]
          gi_wp2
          refine ⟨⟨i + 1, by omega, by go_num, ?_, A1, A2⟩, by first | (simp [intOf]; done) | (simp [intOf]; omega)⟩
          rw [HP.out, ← HE.out]
          exact hJs
    · have e : i = 2 := by omega
      rw [show ((i : Nat) : Int) = 2 by omega]
      subst e
      have c1 := A1.c 0 (by omega)
      have c2 := A2.c 0 (by omega)
      have xl : lenB a s < 2 ^ 128 := by unfold lenB; omega
      obtain ⟨fn, tmps, assign, body, hy, hR⟩ := hY _ (lenB a s) wr hJs xl
      have e1 : hi (lenB a s) = 8 * (a.size : Int) := by unfold hi lenB; omega
      have e2 : lo (lenB a s) = 8 * (s.size : Int) := by unfold lo lenB; omega
      unfold gB gk at hy
      rw [e1, e2] at hy
      have a1 : (a.size : Int) ≤ 1000000 := by omega
      have s1 : (s.size : Int) ≤ 1000000 := by omega
      have HE : Hid (pf a s 2 ++ [lenB a s] = hBl a s) := by
        show _ = _
        unfold pf pf pf hBl tw
        simp
      clear e1 e2 hJs A1 A2
      gi_wp2
      refine hR.mono ?_
      rintro e W3 (⟨rfl, hJ3, hK⟩ | ⟨rfl, hJx3⟩)
      · gi_wp2
        go_end0
        refine ⟨⟨_, rfl⟩, .inl ⟨_, HE.out, hJ3, trivial⟩⟩
      · gi_wp2
        go_end0
        exact ⟨⟨_, rfl⟩, .inr ⟨_, trivial, hJx3⟩⟩
theorem gblocks_seq (a s : ByteArray) (ha : a.size ≤ 1000000) (hs : s.size ≤ 1000000) (n q b1 b2 : Nat) (hn : 1 ≤ n) (w0 : World) (n1 : b1 ≠ q) (n2 : b2 ≠ q) (A1 : Arr w0 b1 1 (fun _ => .string a)) (A2 : Arr w0 b2 1 (fun _ => .string s)) :
    SeqM Fence.wide n Tryz.prog 115 #[.pointer (some ⟨b1, 0, none⟩), .pointer (some ⟨b2, 0, none⟩)] (fun x : Nat => #[gB x]) (KC q q q) (fun _ x _ => x < 2 ^ 128) (fun _ => True) (fun ys => ys = hBl a s) (fun _ => True) none (fun _ => True) w0 :=
  fun l Jv Jx W hW hJ _ _ _ hY hj => gblocks1_in a s ha hs n l q b1 b2 hn Jv Jx hJ hY W n1 n2 (A1.to' hW) (A2.to' hW) hj
set_option maxHeartbeats 1000000 in
theorem gblocks_any (a s : ByteArray) (w : World) : Calls Tryz.prog 101 #[.string a, .string s] w fun e w' => e = .returned (.func (.func 115) #[] #[.pointer (some ⟨w.heap.size, 0, none⟩), .pointer (some ⟨w.heap.size + 1, 0, none⟩)]) ∧ w' = (w.alloc (.cells #[.string a] 9)).alloc (.cells #[.string s] 9) := by
  go_enter Tryz.func101, Tryz.ntmps101
  go_wp2
  go_ret
  exact ⟨rfl, rfl⟩
end Go.Proofs.YtjaljnfijhfkcaaGreatDoor
/- The hash of two texts by a block. -/
set_option linter.all false
set_option maxRecDepth 100000
namespace Go.Proofs.YtjaljnfijhfkcaaGreatDoor
open Go.RowKit Go.Shelf Go.Sort Lin
attribute [local go_sem] Oper.semAt_some
/-- Blocks hashed. -/
def hF (h : Nat) (xs : List Nat) : Nat := xs.foldl (fun c x => tB (c ^^^ x) h) 0
theorem hF_app (h : Nat) (xs : List Nat) (x : Nat) : hF h (xs ++ [x]) = tB (hF h xs ^^^ x) h := by unfold hF; rw [List.foldl_append]; rfl
theorem hF_lt {h : Nat} (hh : h < 2 ^ 128) (xs : List Nat) : hF h xs < 2 ^ 128 := by
  rcases List.eq_nil_or_concat xs with rfl | ⟨l, x, rfl⟩
  · exact Nat.two_pow_pos 128
  · rw [List.concat_eq_append, hF_app]; exact tB_lt hh
/-- What the rounds keep. -/
structure IH (w : World) (q0 q1 q2 : Nat) (x y u v : Int) (W : World) : Prop where
  b : Below w.heap.size w W
  p : Arr W q0 2 (g2 x y)
  z : Arr W q1 2 (g2 0 0)
  s : Arr W q2 2 (g2 u v)
def IHx (w : World) (q0 q1 q2 : Nat) (h : Nat) (pre : List Nat) (W : World) : Prop := IH w q0 q1 q2 (hi h) (lo h) (hi (hF h pre)) (lo (hF h pre)) W
theorem bel_of {w W : World} (hg : w.grownBy W none) : Below w.heap.size w W := ⟨hg.os, hg.tape, hg.output, hg.size, fun k hk => hg.block k hk (by intro e; cases e)⟩
theorem IH.own {w A A' : World} {q0 q1 q2 : Nat} {x y u v : Int} {row : Option Nat} (h : IH w q0 q1 q2 x y u v A) (hg : A.grownBy A' row) (hr : ∀ r, row = some r → w.heap.size ≤ r ∧ ∃ o : Obj, A.heap[r]? = some o ∧ o.isCells = false) : IH w q0 q1 q2 x y u v A' := by
  obtain ⟨h1, h2, h3, h4⟩ := h
  have hr' : ∀ r, row = some r → ∃ o : Obj, A.heap[r]? = some o ∧ o.isCells = false := fun r e => (hr r e).2
  refine ⟨?_, arr_kept h2 hg hr', arr_kept h3 hg hr', arr_kept h4 hg hr'⟩
  cases row with
  | none => exact Bel.call h1 (bel_of hg)
  | some r => exact bel_of (gb_new (gby h1) (hr r rfl).1 hg)
theorem IHx_own (w : World) (q0 q1 q2 h B : Nat) (hB : w.heap.size ≤ B) : OwnFrom B (IHx w q0 q1 q2 h) :=
  fun s A A' row h hg hr => IH.own h hg (fun r e => ⟨Nat.le_trans hB (hr r e).1, (hr r e).2⟩)
theorem Lt_own (B : Nat) : OwnFrom B (fun (s : List Nat × Nat) (W : World) => s.2 < 2 ^ 128) := fun s A A' row h _ _ => h
theorem Tr_own (B : Nat) : OwnFrom B (fun (_ : Unit) (W : World) => True) := fun _ _ _ _ _ _ _ => trivial
theorem KC.st2 {q : Nat} (W : World) (x y : Int) : KC q q q W (st2 W q x y) := KC.t (KC.one (gb_set _ _ _ _) (.inl rfl)) (KC.one (gb_set _ _ _ _) (.inl rfl))
set_option maxHeartbeats 1000000 in
theorem hashed_core (a s : ByteArray) (ha : a.size ≤ 1000000) (hs : s.size ≤ 1000000) (h : Nat) (hh : h < 2 ^ 128) (w : World) :
    Calls Tryz.prog 78 #[gB h, .string a, .string s] w fun e w' => e = .returned (gB (hF h (hBl a s))) ∧ Below w.heap.size w w' := by
  refine (callsIn_wide (n := 8)).1 ?_
  refine callsIn_of_wp_marks Tryz.func78 rfl trivial ?_ rfl
  unfold gB gk
  obtain ⟨x, hx⟩ : ∃ x, hi h = x := ⟨_, rfl⟩
  obtain ⟨y, hy⟩ : ∃ y, lo h = y := ⟨_, rfl⟩
  have HX : Hid (hi h = x ∧ lo h = y) := ⟨hx, hy⟩
  rw [hx, hy]
  clear hx hy
  simp only [Tryz.ntmps78, List.size_toArray, List.length_cons, List.length_nil, Nat.reduceAdd, Nat.reduceSub, Array.replicate_succ, Array.replicate_zero, List.push_toArray, List.append_toArray, List.nil_append, List.cons_append]
  gi_wp2_with (refine ⟨trivial, ?_⟩; gi_at_call 101; refine (callsIn_wide.2 (gblocks_any a s _)).mono ?_; rintro e w3 ⟨rfl, rfl⟩)
  have P0 := ((((Arr.new w _ 105 _ rfl _ 2 (g2_at x y)).al' (.cells #[.int .u64 0, .int .u64 0] 105)).al' (.cells #[.int .u64 0, .int .u64 0] 105)).al' (.cells #[.string a] 9)).al' (.cells #[.string s] 9)
  have Z1 := (((Arr.new (w.alloc (.cells #[.int .u64 x, .int .u64 y] 105)) _ 105 (w.heap.size + 1) (by simp) _ 2 (g2_at 0 0)).al' (.cells #[.int .u64 0, .int .u64 0] 105)).al' (.cells #[.string a] 9)).al' (.cells #[.string s] 9)
  have S2 := ((Arr.new ((w.alloc (.cells #[.int .u64 x, .int .u64 y] 105)).alloc (.cells #[.int .u64 0, .int .u64 0] 105)) _ 105 (w.heap.size + 1 + 1) (by simp) _ 2 (g2_at 0 0)).al' (.cells #[.string a] 9)).al' (.cells #[.string s] 9)
  have X3 := (Arr.new (((w.alloc (.cells #[.int .u64 x, .int .u64 y] 105)).alloc (.cells #[.int .u64 0, .int .u64 0] 105)).alloc (.cells #[.int .u64 0, .int .u64 0] 105)) #[.string a] 9 (w.heap.size + 1 + 1 + 1) (by simp) _ 1 (fun j hj => one_at _ j hj)).al' (.cells #[.string s] 9)
  have X4 := Arr.new ((((w.alloc (.cells #[.int .u64 x, .int .u64 y] 105)).alloc (.cells #[.int .u64 0, .int .u64 0] 105)).alloc (.cells #[.int .u64 0, .int .u64 0] 105)).alloc (.cells #[.string a] 9)) #[.string s] 9 (w.heap.size + 1 + 1 + 1 + 1) (by simp) _ 1 (fun j hj => one_at _ j hj)
  have hB : Below w.heap.size w (((((w.alloc (.cells #[.int .u64 x, .int .u64 y] 105)).alloc (.cells #[.int .u64 0, .int .u64 0] 105)).alloc (.cells #[.int .u64 0, .int .u64 0] 105)).alloc (.cells #[.string a] 9)).alloc (.cells #[.string s] 9)) := by go_grown
  generalize (((((w.alloc (.cells #[.int .u64 x, .int .u64 y] 105)).alloc (.cells #[.int .u64 0, .int .u64 0] 105)).alloc (.cells #[.int .u64 0, .int .u64 0] 105)).alloc (.cells #[.string a] 9)).alloc (.cells #[.string s] 9)) = w4 at P0 Z1 S2 X3 X4 hB ⊢
  have sz : w.heap.size ≤ w4.heap.size := hB.size
  have z0 : g2 (hi (hF h [])) (lo (hF h [])) = g2 0 0 := by
    have e : hF h [] = 0 := rfl
    rw [e]
    simp [hi, lo]
  refine wpIn_rangeFunc_made rfl (by omega) (gf := 115) (lb := #[.pointer (some ⟨w.heap.size + 1 + 1 + 1, 0, none⟩), .pointer (some ⟨w.heap.size + 1 + 1 + 1 + 1, 0, none⟩)]) rfl trivial (enters_of Tryz.func115 (by kernel_rfl) rfl)
    (gblocks_seq a s ha hs _ (w.heap.size + 1 + 1) (w.heap.size + 1 + 1 + 1) (w.heap.size + 1 + 1 + 1 + 1) (by omega) w4 (by omega) (by omega) X3 X4) KC.t (fun W l o o' _ h1 h2 => KC.b W l o o' h1 h2) KC.g (Below.refl _ _) (fun _ => rfl)
    (fun k e => by cases e) (Lt_own _) (Tr_own _)
    (IHx w w.heap.size (w.heap.size + 1) (w.heap.size + 1 + 1) h) INo (IHx_own w _ _ _ h _ sz) (INo_own _) (fun s A B h hg => IH.own h hg (fun r e => by cases e)) (fun _ _ _ => trivial)
    ⟨hB, by rw [HX.out.1, HX.out.2]; exact P0, Z1, by rw [z0]; exact S2⟩ ?round ?done ?stop
  case round =>
    clear P0 Z1 S2 X3 X4 hB z0
    rintro l pre t W hI ht
    unfold gB gk
    gi_wp2
    refine ⟨World.grownBy_alloc W _ none, ?_⟩
    intro W2 hU hI2 _
    have K1 := Arr.new W _ 105 _ rfl _ 2 (g2_at (hi t) (lo t))
    have JK := hU.arr K1
    have t1 : w.heap.size + 1 + 1 < W.heap.size := hI.s.lt
    clear hU K1 hI
    generalize W.heap.size = p at *
    unfold IHx at hI2
    have HO : Hid (hF h (pre ++ [t]) = tB (hF h pre ^^^ t) h) := hF_app h pre t
    have cl := hF_lt hh pre
    generalize hF h pre = c at *
    have C35 := fun A => gplus_any cl ht A
    have C21 := fun A => btimes_any (x128 cl ht) hh A
    unfold gB gk at C35 C21
    rw [HX.out.1, HX.out.2] at C21 hI2
    generalize c ^^^ t = d at *
    generalize tB d h = o at *
    obtain ⟨jB, JP, JZ, JS⟩ := hI2
    have hd : 1 ≤ 8 - 1 - 1 := by omega
    have r0 := fun ds os => cell_regrown JS.h ds os
    have r1 := fun ds os => cell_regrown JS.l ds os
    have r2 := fun ds os => cell_regrown JK.h ds os
    have r3 := fun ds os => cell_regrown JK.l ds os
    have r4 := fun ds os => cell_regrown JP.h ds os
    have r5 := fun ds os => cell_regrown JP.l ds os
    gi_wp2
    refine wpIn_region_below_tail 5 (by kernel_rfl) (by kernel_rfl) ?_
    simp only [List.take_succ_cons, List.take_zero, List.drop_succ_cons, List.drop_zero]
    repeat (go_big_quiet_step (first | (go_at_call 79; exact Calls.regrown_of (C35 _)) | (go_at_call 102; exact Calls.regrown_of (C21 _))))
    refine wpQuiet_nil ?_
    intro w1 hw'
    obtain ⟨⟨dq, osq⟩, hw''⟩ := hw'
    have hb := below_of hw''
    clear hw'' r0 r1 r2 r3 r4 r5 C35 C21
    have LS := JS.to' hb
    have LZ := JZ.to' hb
    have LP := JP.to' hb
    have lB := Bel.call jB hb
    have c0 := LS.c 0 (by omega)
    have c1 := LS.c 1 (by omega)
    have z0 := LS.z 0 (by omega)
    have z1 := LS.z 1 (by omega)
    clear JS JZ JP jB
    gi_wp2
    refine ⟨(ko_below hb).trans (ko_st2 _ _ (hi o) (lo o)), KC.t (KC.g _ _ (gby hb)) (KC.st2 _ (hi o) (lo o)), ?_⟩
    show IH w w.heap.size (w.heap.size + 1) (w.heap.size + 1 + 1) (hi h) (lo h) (hi (hF h (pre ++ [t]))) (lo (hF h (pre ++ [t]))) _
    rw [HO.out, HX.out.1, HX.out.2]
    exact ⟨Bel.st2 lB (by omega) (hi o) (lo o), LP.st2o (by omega) (hi o) (lo o), LZ.st2o (by omega) (hi o) (lo o), LS.st2 (hi o) (lo o)⟩
  case done =>
    clear P0 Z1 S2 X3 X4 hB z0
    rintro De ys W hD hS hI _ hK
    rw [show ys = hBl a s from hS] at hI
    unfold IHx at hI
    obtain ⟨o, ho⟩ : ∃ o, hF h (hBl a s) = o := ⟨_, rfl⟩
    rw [ho] at hI
    have HG : Hid (hF h (hBl a s) = o) := ho
    clear ho
    obtain ⟨jB, JP, JZ, JS⟩ := hI
    have cs := JS.h
    have cl := JS.l
    have c0 := JZ.c 0 (by omega)
    have c1 := JZ.c 1 (by omega)
    have z0 := JZ.z 0 (by omega)
    have z1 := JZ.z 1 (by omega)
    gi_wp2
    have hK' := (ko_st2 W (w.heap.size + 1) (hi o) (lo o)).same De _ hK rfl
    have H6 := arr_kept (JZ.st2 (hi o) (lo o)) (grownBy_putObj' _ De (.deferred none)) (fun r e => by cases e; exact ⟨_, hK', rfl⟩)
    refine ⟨by simp, .inl ⟨_, _, rfl, run_takeDeferred hK', ?_⟩⟩
    have e0 := H6.h
    have e1 := H6.l
    simp only [st2] at e0 e1
    refine ⟨gB o, by simp [gB, gk, results, Tryz.results78, go_sem, e0, e1], by rw [HG.out]; rfl, ?_⟩
    exact bel_of (gb_new (gby (Bel.st2 jB (b := w.heap.size + 1) (by omega) (hi o) (lo o))) (Nat.le_trans sz hD) (grownBy_putObj' _ De _))
  case stop =>
    rintro D pre W _ _ h
    exact h.elim
end Go.Proofs.YtjaljnfijhfkcaaGreatDoor
/- The reference: sizes, sums, rows turned. -/
set_option linter.all false
set_option maxRecDepth 100000
namespace Go.Proofs.YtjaljnfijhfkcaaGreatDoor
open Go.RowKit Go.Sort
set_option maxHeartbeats 1000000 in
theorem rsized_any (key : ByteArray) (w : World) : Calls Tryz.prog 84 #[.string key] w fun e w' => e = .returned (.bool (isK key)) ∧ w' = w := by
  by_cases h1 : key.size = 16
  · have e : isK key = true := by unfold isK; simp [h1]
    have i1 : (key.size : Int) = 16 := by omega
    rw [e]
    clear e h1
    go_enter Tryz.func84, Tryz.ntmps84
    go_wp2
    go_ret
    exact ⟨rfl, rfl⟩
  · have i1 : ¬ (key.size : Int) = 16 := by omega
    by_cases h2 : key.size = 32
    · have e : isK key = true := by unfold isK; simp [h2]
      have i2 : (key.size : Int) = 32 := by omega
      rw [e]
      clear e h1 h2
      go_enter Tryz.func84, Tryz.ntmps84
      go_wp2
      go_ret
      exact ⟨rfl, rfl⟩
    · have e : isK key = false := by unfold isK; simp [h1, h2]
      have i2 : ¬ (key.size : Int) = 32 := by omega
      rw [e]
      clear e h1 h2
      go_enter Tryz.func84, Tryz.ntmps84
      go_wp2
      go_ret
      refine ⟨?_, rfl⟩
      simp [i1, i2]
set_option maxHeartbeats 1000000 in
theorem rrefused_any (key block : ByteArray) (w : World) : Calls Tryz.prog 64 #[.string key, .string block] w fun e w' => e = .returned (.int .i64 (rfs key block)) ∧ w' = w := by
  have C := fun W => rsized_any key W
  have hnot : ∀ (x : Bool) (w : World), (Op.unary .not (.bool x)).run Tryz.prog w = .ok (.bool (!x)) w := fun _ _ => rfl
  unfold rfs
  by_cases h1 : isK key = true
  · rw [h1] at C
    rw [if_pos h1]
    clear h1
    by_cases h2 : block.size = 16
    · have i2 : (block.size : Int) = 16 := by omega
      rw [if_pos h2]
      clear h2
      go_enter Tryz.func64, Tryz.ntmps64
      go_wp2_with (go_at_call 84; refine (C _).mono ?_; rintro e w1 ⟨rfl, rfl⟩)
      go_ret
      exact ⟨rfl, rfl⟩
    · have i2 : ¬ (block.size : Int) = 16 := by omega
      rw [if_neg h2]
      clear h2
      go_enter Tryz.func64, Tryz.ntmps64
      go_wp2_with (go_at_call 84; refine (C _).mono ?_; rintro e w1 ⟨rfl, rfl⟩)
      go_ret
      exact ⟨rfl, rfl⟩
  · have h2 : isK key = false := by simpa using h1
    rw [h2] at C
    rw [if_neg h1]
    clear h1 h2
    go_enter Tryz.func64, Tryz.ntmps64
    go_wp2_with (go_at_call 84; refine (C _).mono ?_; rintro e w1 ⟨rfl, rfl⟩)
    go_ret
    exact ⟨rfl, rfl⟩
/-- A byte in a cell. -/
def bc (f : Nat → By) (j : Nat) : Value := .int .u8 ((f j).val : Int)
/-- The first k are done. -/
def bm (y x : Nat → By) (k : Nat) (j : Nat) : Value := .int .u8 ((if j < k then y j else x j).val : Int)
set_option maxHeartbeats 2000000 in
theorem rplus_core (f k y : Nat → By) (hy : ∀ j, j < 16 → y j = xr (f j) (k j)) (gb gw o cb cw : Nat) (hne : gw ≠ gb) (w : World) (hA : Arr w gb 16 (bc f)) (hK : ∀ j, j < 16 → w.cell? ⟨gw, o + j, none⟩ = some (bc k j)) :
    Calls Tryz.prog 87 #[.slice (some ⟨gb, 0, none⟩) 16 cb, .slice (some ⟨gw, o, none⟩) 16 cw] w fun e w' => e = .returned (.tuple #[]) ∧ w.grownBy w' (some gb) ∧ Arr w' gb 16 (bc y) := by
  go_enter Tryz.func87, Tryz.ntmps87
  go_wp2_with fail
  go_loopw [4] (fun i wr => ∃ m : Nat, m ≤ 16 ∧ i = .int .i64 m ∧ w.grownBy wr (some gb) ∧ Arr wr gb 16 (bm y f m)) (fun i _ => 16 - (intOf i).toNat)
  case atStart => exact ⟨0, by omega, rfl, gb_refl _ _, hA.congr (fun j _ => by unfold bm bc; rw [if_neg (by omega)])⟩
  case round =>
    obtain ⟨m, hm, rfl, hG, A⟩ := hrel
    have m0 : (0 : Int) ≤ (m : Int) := by omega
    by_cases hlt : m < 16
    · have m1 : (m : Int) < 16 := by omega
      have c1 := A.cv m hlt (.int .u8 ((f m).val : Int)) (by unfold bm; rw [if_neg (by omega)])
      have c2 := (gb_cell (j := o + m) hG (block_lt_of_cell (hK m hlt)) hne).trans (hK m hlt)
      unfold bc at c2
      have r1 := fun ds os => cell_regrown c1 ds os
      have r2 := fun ds os => cell_regrown c2 ds os
      have ex := xr8 (f m) (k m)
      rw [← hy m hlt] at ex
      clear hy hK
      go_wp2_with fail
      refine wp_region_below_tail 12 (by kernel_rfl) (by kernel_rfl) ?_
      simp only [List.take_succ_cons, List.take_zero, List.drop_succ_cons, List.drop_zero]
      repeat (go_big_quiet_step (fail))
      refine wpQuiet_nil ?_
      intro w1 hw'
      obtain ⟨⟨dq, osq⟩, hw''⟩ := hw'
      have hb := below_of hw''
      clear hw'' r1 r2 c1 c2
      have A1 := A.to' hb
      have hG1 := gb_trans hG (gb_of hb)
      clear A hG hb
      have c := A1.c m hlt
      have z := A1.z m hlt
      go_wp2_with fail
      refine ⟨⟨m + 1, by omega, by go_num, gb_trans hG1 (gb_set _ _ _ _), (A1.set m hlt _).congr ?_⟩, by simp [intOf]; omega⟩
      intro j hj
      unfold bm
      by_cases e : j = m
      · subst e; rw [if_pos rfl, if_pos (by omega)]
      · rw [if_neg e]
        by_cases e2 : j < m
        · rw [if_pos e2, if_pos (by omega)]
        · rw [if_neg e2, if_neg (by omega)]
    · have e : m = 16 := by omega
      rw [show ((m : Nat) : Int) = 16 by omega]
      subst e
      have A2 : Arr wr gb 16 (bc y) := A.congr fun j hj => by unfold bm bc; rw [if_pos hj]
      clear A hy hK
      go_wp2_with fail
      go_end0
      exact ⟨rfl, hG, A2⟩
theorem rplus_any (f k : Nat → By) (gb gw o cb cw : Nat) (hne : gw ≠ gb) (w : World) (hA : Arr w gb 16 (bc f)) (hK : ∀ j, j < 16 → w.cell? ⟨gw, o + j, none⟩ = some (bc k j)) :
    Calls Tryz.prog 87 #[.slice (some ⟨gb, 0, none⟩) 16 cb, .slice (some ⟨gw, o, none⟩) 16 cw] w fun e w' => e = .returned (.tuple #[]) ∧ w.grownBy w' (some gb) ∧ Arr w' gb 16 (bc (plF f k)) :=
  rplus_core f k (plF f k) (fun _ _ => rfl) gb gw o cb cw hne w hA hK
/-- What is done by step m. -/
def tv (y : Nat → By) (st : Nat → Nat) (m : Nat) (j : Nat) : Value := .int .u8 ((if st j < m then y j else 0).val : Int)
theorem tv_step (y : Nat → By) (st : Nat → Nat) (m p : Nat) (hst : st p = m) (hun : ∀ j, j < 16 → st j = m → j = p) (j : Nat) (hj : j < 16) : (if j = p then Value.int .u8 ((y p).val : Int) else tv y st m j) = tv y st (m + 1) j := by
  unfold tv
  by_cases e : j = p
  · subst e; rw [if_pos rfl, hst, if_pos (by omega)]
  · rw [if_neg e]
    have : st j ≠ m := fun h => e (hun j hj h)
    by_cases e2 : st j < m
    · rw [if_pos e2, if_pos (by omega)]
    · rw [if_neg e2, if_neg (by omega)]
theorem made_at (n j : Nat) (hj : j < n) : (madeCells #[Value.int .u8 0] n)[j]? = some (.int .u8 0) := by
  simp [madeCells, hj, Nat.mod_one]
theorem z16 : (Tryz.prog.info? 5).map (fun i => (i.zero, i.size, i.bytes)) = some (some (.int .u8 0), 1, 1) := Tryz.info5
set_option maxHeartbeats 4000000 in
theorem rturned_core (back : Bool) (f y : Nat → By) (st ps src : Nat → Nat) (gb cb : Nat)
    (hps : ∀ c r, c < 4 → r < 4 → ps (4 * c + r) = if back then 4 * ((c + r) % 4) + r else 4 * c + r) (hsrc : ∀ c r, c < 4 → r < 4 → src (4 * c + r) = if back then 4 * c + r else 4 * ((c + r) % 4) + r)
    (hval : ∀ m, m < 16 → f (src m) = y (ps m)) (hst : ∀ m, m < 16 → st (ps m) = m) (hun : ∀ j m, j < 16 → m < 16 → st j = m → j = ps m) (hall : ∀ j, j < 16 → st j < 16)
    (w : World) (hA : Arr w gb 16 (bc f)) :
    Calls Tryz.prog 88 #[.slice (some ⟨gb, 0, none⟩) 16 cb, .bool back] w fun e w' => e = .returned (.slice (some ⟨w.heap.size, 0, none⟩) 16 16) ∧ Below w.heap.size w w' ∧ Arr w' w.heap.size 16 (bc y) := by
  obtain ⟨i0, hi, hz0, hz1, hz2⟩ := info_parts Tryz.info5
  have mk := run_make (P := Tryz.prog) w 50 5 i0 (.int .u8 0) Tryz.underlying50 hi hz0 .i64 .i64 16 16 (by omega) (by omega) (by rw [hz2]; omega) (by omega)
  rw [hz1] at mk
  go_enter Tryz.func88, Tryz.ntmps88
  go_wp2_with fail
  have A0 : Arr (w.alloc (.cells (madeCells #[.int .u8 0] 16) 5)) w.heap.size 16 (tv y st 0) := Arr.new _ _ 5 _ rfl _ 16 (fun j hj => by unfold tv; rw [if_neg (by omega)]; exact made_at 16 j hj)
  have B0 : Below w.heap.size w (w.alloc (.cells (madeCells #[.int .u8 0] 16) 5)) := Bel.al (Below.refl _ w) _
  clear mk hi hz0 hz1 hz2
  go_loopw [6] (fun i wr => ∃ c : Nat, c ≤ 4 ∧ i = .int .i64 c ∧ Below w.heap.size w wr ∧ Arr wr w.heap.size 16 (tv y st (4 * c))) (fun i _ => 4 - (intOf i).toNat)
  case atStart => exact ⟨0, by omega, rfl, B0, A0⟩
  case round =>
    clear A0 B0
    obtain ⟨c, hc, rfl, hB, A⟩ := hrel
    have c0 : (0 : Int) ≤ (c : Int) := by omega
    by_cases hlt : c < 4
    · have c4 : (c : Int) < 4 := by omega
      go_wp2_with fail
      go_loopw [7] (fun i wr => ∃ r : Nat, r ≤ 4 ∧ i = .int .i64 r ∧ Below w.heap.size w wr ∧ Arr wr w.heap.size 16 (tv y st (4 * c + r))) (fun i _ => 4 - (intOf i).toNat)
      case atStart => exact ⟨0, by omega, rfl, hB, A⟩
      case round =>
        clear A hB
        obtain ⟨r, hr, rfl, hB, A⟩ := hrel
        have r0 : (0 : Int) ≤ (r : Int) := by omega
        by_cases hlr : r < 4
        · have r4 : (r : Int) < 4 := by omega
          have hp := hps c r hlt hlr
          have hs := hsrc c r hlt hlr
          have hv := hval (4 * c + r) (by omega)
          have hS := tv_step y st (4 * c + r) (ps (4 * c + r)) (hst _ (by omega)) (fun j hj h => hun j _ hj (by omega) h)
          have F := hA.to' hB
          obtain ⟨q, hq⟩ : ∃ q, (c + r) % 4 = q := ⟨_, rfl⟩
          have q4 : q < 4 := by omega
          have qi : ((c : Int) + (r : Int)) % 4 = (q : Int) := by omega
          rw [hq] at hp hs
          have q0 : (0 : Int) ≤ (q : Int) := by omega
          have qi4 : (q : Int) < 4 := by omega
          rw [hs, hp] at hv
          rw [hp] at hS
          clear hps hsrc hval hst hun hall hp hs hq
          cases back with
          | true =>
            rw [if_pos rfl, if_pos rfl] at hv
            rw [if_pos rfl] at hS
            have HS : Hid _ := hS
            have HV : Hid _ := hv
            have cf := F.c (4 * c + r) (by omega)
            unfold bc at cf
            rw [hv] at cf
            have co := A.c (4 * q + r) (by omega)
            have zo := A.z (4 * q + r) (by omega)
            clear hS hv F
            go_wp2_with fail
            refine ⟨⟨r + 1, by omega, by go_num, Bel.st hB (Nat.le_refl _) _, (A.set (4 * q + r) (by omega) _).congr HS.out⟩, by simp [intOf]; omega⟩
          | false =>
            rw [if_neg (by decide), if_neg (by decide)] at hv
            rw [if_neg (by decide)] at hS
            have HS : Hid _ := hS
            have cf := F.c (4 * q + r) (by omega)
            unfold bc at cf
            rw [hv] at cf
            have co := A.c (4 * c + r) (by omega)
            have zo := A.z (4 * c + r) (by omega)
            clear hS hv F
            go_wp2_with fail
            refine ⟨⟨r + 1, by omega, by go_num, Bel.st hB (Nat.le_refl _) _, (A.set (4 * c + r) (by omega) _).congr HS.out⟩, by simp [intOf]; omega⟩
        · have e : r = 4 := by omega
          rw [show ((r : Nat) : Int) = 4 by omega]
          subst e
          clear hps hsrc hval hst hun hall
          go_wp2_with fail
          refine ⟨⟨c + 1, by omega, by go_num, hB, ?_⟩, by simp [intOf]; omega⟩
          rw [show 4 * (c + 1) = 4 * c + 4 by omega]
          exact A
    · have e : c = 4 := by omega
      rw [show ((c : Nat) : Int) = 4 by omega]
      subst e
      have A2 : Arr wr w.heap.size 16 (bc y) := A.congr fun j hj => by unfold tv bc; rw [if_pos (hall j hj)]
      clear A hps hsrc hval hst hun hall
      go_wp2_with fail
      go_ret
      exact ⟨rfl, hB, A2⟩
def ti (j : Nat) : Nat := 4 * ((j / 4 + j % 4) % 4) + j % 4
theorem ti_at (c r : Nat) (hc : c < 4) (hr : r < 4) : ti (4 * c + r) = 4 * ((c + r) % 4) + r := by
  unfold ti
  rw [show (4 * c + r) / 4 = c by omega, show (4 * c + r) % 4 = r by omega]
theorem rturned_any (f : Nat → By) (gb cb : Nat) (w : World) (hA : Arr w gb 16 (bc f)) :
    Calls Tryz.prog 88 #[.slice (some ⟨gb, 0, none⟩) 16 cb, .bool false] w fun e w' => e = .returned (.slice (some ⟨w.heap.size, 0, none⟩) 16 16) ∧ Below w.heap.size w w' ∧ Arr w' w.heap.size 16 (bc (tnF f)) :=
  rturned_core false f (tnF f) id id ti gb cb (fun c r _ _ => rfl) (fun c r hc hr => by rw [ti_at c r hc hr]; rfl) (fun m _ => rfl) (fun m _ => rfl) (fun j m _ _ h => h) (fun j h => h) w hA
end Go.Proofs.YtjaljnfijhfkcaaGreatDoor
/- The reference: columns mixed. -/
set_option linter.all false
set_option maxRecDepth 100000
namespace Go.Proofs.YtjaljnfijhfkcaaGreatDoor
open Go.RowKit Go.Sort
/-- The bytes ahead of m are done, the m-th is under way. -/
def mv (y : Nat → By) (p : By) (m : Nat) (j : Nat) : Value := .int .u8 ((if j < m then y j else if j = m then p else 0).val : Int)
theorem mv_set (y : Nat → By) (p q : By) (m : Nat) (j : Nat) : (if j = m then Value.int .u8 (q.val : Int) else mv y p m j) = mv y q m j := by
  unfold mv
  by_cases e : j = m
  · subst e; rw [if_pos rfl, if_neg (by omega), if_pos rfl]
  · rw [if_neg e, if_neg e, if_neg e]
theorem mv_next (y : Nat → By) (m : Nat) (j : Nat) : mv y (y m) m j = mv y 0 (m + 1) j := by
  unfold mv
  by_cases e : j = m
  · subst e; rw [if_neg (by omega), if_pos rfl, if_pos (by omega)]
  · rw [if_neg e]
    by_cases e2 : j < m
    · rw [if_pos e2, if_pos (by omega)]
    · rw [if_neg e2, if_neg (by omega)]
      split <;> rfl
/-- The sum of the first k products. -/
def pq (f mm : Nat → By) (c r : Nat) : Nat → By
  | 0 => 0
  | k + 1 => xr (pq f mm c r k) (tmF (f (4 * c + (r + k) % 4)) (mm k))
theorem pq_4 (f mm : Nat → By) (c r : Nat) (hr : r < 4) : pq f mm c r 4 = mxF (mm 0) (mm 1) (mm 2) (mm 3) f (4 * c + r) := by
  unfold mxF mxB
  rw [show (4 * c + r) / 4 = c by omega, show (4 * c + r) % 4 = r by omega]
  unfold pq pq pq pq pq
  rw [zero_xr, Nat.add_zero, Nat.mod_eq_of_lt hr]
set_option maxHeartbeats 8000000 in
theorem rmixed_core (f mm y : Nat → By) (P : Nat → Nat → Nat → By) (gb cb gm cm : Nat) (hP0 : ∀ c r, P c r 0 = 0) (hP4 : ∀ c r, c < 4 → r < 4 → P c r 4 = y (4 * c + r))
    (C9 : ∀ c r k, c < 4 → r < 4 → k < 4 → ∃ t : By, (∀ W, Calls Tryz.prog 86 #[.int .u8 ((f (4 * c + (r + k) % 4)).val : Int), .int .u8 ((mm k).val : Int)] W fun e w' => e = .returned (.int .u8 (t.val : Int)) ∧ Below W.heap.size W w') ∧ P c r (k + 1) = xr (P c r k) t)
    (w : World) (hA : Arr w gb 16 (bc f)) (hM : Arr w gm 4 (bc mm)) :
    Calls Tryz.prog 89 #[.slice (some ⟨gb, 0, none⟩) 16 cb, .slice (some ⟨gm, 0, none⟩) 4 cm] w fun e w' => e = .returned (.slice (some ⟨w.heap.size, 0, none⟩) 16 16) ∧ Below w.heap.size w w' ∧ Arr w' w.heap.size 16 (bc y) := by
  obtain ⟨i0, hi, hz0, hz1, hz2⟩ := info_parts Tryz.info5
  have mk := run_make (P := Tryz.prog) w 50 5 i0 (.int .u8 0) Tryz.underlying50 hi hz0 .i64 .i64 16 16 (by omega) (by omega) (by rw [hz2]; omega) (by omega)
  rw [hz1] at mk
  go_enter Tryz.func89, Tryz.ntmps89
  go_wp2_with fail
  have A0 : Arr (w.alloc (.cells (madeCells #[.int .u8 0] 16) 5)) w.heap.size 16 (mv y 0 0) := Arr.new _ _ 5 _ rfl _ 16 (fun j hj => by unfold mv; rw [if_neg (by omega), ite_self]; exact made_at 16 j hj)
  have B0 : Below w.heap.size w (w.alloc (.cells (madeCells #[.int .u8 0] 16) 5)) := Bel.al (Below.refl _ w) _
  clear mk hi hz0 hz1 hz2
  go_loopw [6] (fun i wr => ∃ c : Nat, c ≤ 4 ∧ i = .int .i64 c ∧ Below w.heap.size w wr ∧ Arr wr w.heap.size 16 (mv y 0 (4 * c))) (fun i _ => 4 - (intOf i).toNat)
  case atStart => exact ⟨0, by omega, rfl, B0, A0⟩
  case round =>
    clear A0 B0
    obtain ⟨c, hc, rfl, hB, A⟩ := hrel
    have c0 : (0 : Int) ≤ (c : Int) := by omega
    by_cases hlt : c < 4
    · have c4 : (c : Int) < 4 := by omega
      go_wp2_with fail
      go_loopw [7] (fun i wr => ∃ r : Nat, r ≤ 4 ∧ i = .int .i64 r ∧ Below w.heap.size w wr ∧ Arr wr w.heap.size 16 (mv y 0 (4 * c + r))) (fun i _ => 4 - (intOf i).toNat)
      case atStart => exact ⟨0, by omega, rfl, hB, A⟩
      case round =>
        clear A hB
        obtain ⟨r, hr, rfl, hB, A⟩ := hrel
        have r0 : (0 : Int) ≤ (r : Int) := by omega
        by_cases hlr : r < 4
        · have r4 : (r : Int) < 4 := by omega
          go_wp2_with fail
          go_loopw [8] (fun i wr => ∃ k : Nat, k ≤ 4 ∧ i = .int .i64 k ∧ Below w.heap.size w wr ∧ Arr wr w.heap.size 16 (mv y (P c r k) (4 * c + r))) (fun i _ => 4 - (intOf i).toNat)
          case atStart => exact ⟨0, by omega, rfl, hB, by rw [hP0]; exact A⟩
          case round =>
            clear A hB
            obtain ⟨k, hk, rfl, hB, A⟩ := hrel
            have k0 : (0 : Int) ≤ (k : Int) := by omega
            by_cases hlk : k < 4
            · have k4 : (k : Int) < 4 := by omega
              obtain ⟨t, ct, ht⟩ := C9 c r k hlt hlr hlk
              obtain ⟨q, hq⟩ : ∃ q, (r + k) % 4 = q := ⟨_, rfl⟩
              have qi : ((r : Int) + (k : Int)) % 4 = (q : Int) := by omega
              have q4 : (q : Int) < 4 := by omega
              have q0 : (0 : Int) ≤ (q : Int) := by omega
              rw [hq] at ct
              have cf := (hA.to' hB).cv (4 * c + q) (by omega) (.int .u8 ((f (4 * c + q)).val : Int)) rfl
              have cm' := (hM.to' hB).cv k hlk (.int .u8 ((mm k).val : Int)) rfl
              have cp := A.cv (4 * c + r) (by omega) (.int .u8 ((P c r k).val : Int)) (by unfold mv; rw [if_neg (by omega), if_pos rfl])
              have r1 := fun ds os => cell_regrown cf ds os
              have r2 := fun ds os => cell_regrown cm' ds os
              have r3 := fun ds os => cell_regrown cp ds os
              have ex := xr8 (P c r k) t
              rw [← ht] at ex
              have HN : Hid (∀ j, (if j = 4 * c + r then Value.int .u8 ((P c r (k + 1)).val : Int) else mv y (P c r k) (4 * c + r) j) = mv y (P c r (k + 1)) (4 * c + r) j) := fun j => mv_set y _ _ _ j
              clear C9 hP0 hP4 ht hq hA hM cf cm' cp
              generalize f (4 * c + q) = fv at *
              generalize mm k = mk' at *
              go_wp2_with fail
              refine wp_region_below_tail 29 (by kernel_rfl) (by kernel_rfl) ?_
              simp only [List.take_succ_cons, List.take_zero, List.drop_succ_cons, List.drop_zero]
              repeat (go_big_quiet_step (first | (go_at_call 86; exact Calls.regrown_of (ct _))))
              refine wpQuiet_nil ?_
              intro w1 hw'
              obtain ⟨⟨dq, osq⟩, hw''⟩ := hw'
              have hb := below_of hw''
              clear hw'' r1 r2 r3 ct
              have A1 := A.to' hb
              have hB1 := Bel.call hB hb
              clear A hB hb
              have co := A1.c (4 * c + r) (by omega)
              have zo := A1.z (4 * c + r) (by omega)
              go_wp2_with fail
              refine ⟨⟨k + 1, by omega, by go_num, Bel.st hB1 (Nat.le_refl _) _, (A1.set (4 * c + r) (by omega) _).congr (fun j _ => HN.out j)⟩, by simp [intOf]; omega⟩
            · have e : k = 4 := by omega
              rw [show ((k : Nat) : Int) = 4 by omega]
              subst e
              rw [hP4 c r hlt hlr] at A
              have HA : Hid (Arr wr w.heap.size 16 (mv y 0 (4 * c + (r + 1)))) := A.congr fun j _ => mv_next y _ j
              clear hP4 hP0 C9 A
              go_wp2_with fail
              exact ⟨⟨r + 1, by omega, by go_num, hB, HA.out⟩, by simp [intOf]; omega⟩
        · have e : r = 4 := by omega
          rw [show ((r : Nat) : Int) = 4 by omega]
          subst e
          clear hP4 hP0 C9
          go_wp2_with fail
          refine ⟨⟨c + 1, by omega, by go_num, hB, ?_⟩, by simp [intOf]; omega⟩
          rw [show 4 * (c + 1) = 4 * c + 4 by omega]
          exact A
    · have e : c = 4 := by omega
      rw [show ((c : Nat) : Int) = 4 by omega]
      subst e
      have A2 : Arr wr w.heap.size 16 (bc y) := A.congr fun j hj => by unfold mv bc; rw [if_pos (by omega)]
      clear A hP4 hP0 C9
      go_wp2_with fail
      go_ret
      exact ⟨rfl, hB, A2⟩
theorem rmixed_any (f mm : Nat → By) (gb cb gm cm : Nat) (w : World) (hA : Arr w gb 16 (bc f)) (hM : Arr w gm 4 (bc mm)) :
    Calls Tryz.prog 89 #[.slice (some ⟨gb, 0, none⟩) 16 cb, .slice (some ⟨gm, 0, none⟩) 4 cm] w fun e w' => e = .returned (.slice (some ⟨w.heap.size, 0, none⟩) 16 16) ∧ Below w.heap.size w w' ∧ Arr w' w.heap.size 16 (bc (mxF (mm 0) (mm 1) (mm 2) (mm 3) f)) :=
  rmixed_core f mm _ (pq f mm) gb cb gm cm (fun _ _ => rfl) (fun c r _ hr => pq_4 f mm c r hr) (fun c r k _ _ _ => ⟨_, fun W => (rtimes_any _ _ W).mono fun e w' h => ⟨h.1, by rw [h.2]; exact Below.refl _ _⟩, rfl⟩) w hA hM
end Go.Proofs.YtjaljnfijhfkcaaGreatDoor
/- Rows of bytes that grow. -/
set_option linter.all false
set_option maxRecDepth 100000
namespace Go.Proofs.YtjaljnfijhfkcaaGreatDoor
open Go.RowKit Go.Sort
/-- A row of n bytes, with room for more. -/
def Rw (w : World) (g n cap : Nat) (f : Nat → By) : Prop := n ≤ cap ∧ ∃ F, Arr w g cap F ∧ ∀ j, j < n → F j = bc f j
theorem Rw.c {w : World} {g n cap : Nat} {f : Nat → By} (h : Rw w g n cap f) (j : Nat) (hj : j < n) : w.cell? ⟨g, j, none⟩ = some (bc f j) := by
  obtain ⟨hl, F, hA, hF⟩ := h
  rw [hA.c j (by omega), hF j hj]
theorem Rw.lt {w : World} {g n cap : Nat} {f : Nat → By} (h : Rw w g (n + 1) cap f) : g < w.heap.size := block_lt_of_cell (h.c 0 (by omega))
theorem Rw.to {w w' : World} {g n cap : Nat} {f : Nat → By} (h : Rw w g (n + 1) cap f) (hb : Below w.heap.size w w') : Rw w' g (n + 1) cap f := by
  have hl := h.lt
  obtain ⟨h1, F, hA, hF⟩ := h
  exact ⟨h1, F, hA.below hb hl, hF⟩
theorem Rw.al {w : World} {g n cap : Nat} {f : Nat → By} (h : Rw w g (n + 1) cap f) (o : Obj) : Rw (w.alloc o) g (n + 1) cap f := h.to (Bel.al (Below.refl _ w) o)
theorem Rw.other {w w' : World} {g x n cap : Nat} {f : Nat → By} (h : Rw w g (n + 1) cap f) (hg : w.grownBy w' (some x)) (hne : g ≠ x) : Rw w' g (n + 1) cap f := by
  obtain ⟨h1, F, hA, hF⟩ := h
  obtain ⟨c, rfl⟩ : ∃ c, cap = c + 1 := ⟨cap - 1, by omega⟩
  exact ⟨h1, F, gb_arr hg hne hA, hF⟩
theorem Rw.arr {w : World} {g cap : Nat} {f : Nat → By} (h : Rw w g 16 cap f) : Arr w g 16 (bc f) := by
  obtain ⟨h1, F, hA, hF⟩ := h
  intro j hj
  rw [← hF j hj]
  exact hA j (by omega)
theorem Rw.congr {w : World} {g n cap : Nat} {f h : Nat → By} (hR : Rw w g n cap f) (e : ∀ j, j < n → f j = h j) : Rw w g n cap h := by
  obtain ⟨h1, F, hA, hF⟩ := hR
  exact ⟨h1, F, hA, fun j hj => by rw [hF j hj]; unfold bc; rw [e j hj]⟩
theorem Rw.of_owns {w : World} {base n : Nat} {v : Value} {f : Nat → By} (h : w.ownsRow base 5 1 v (n + 1) ((List.range (n + 1)).map (bc f))) : ∃ g cap, v = .slice (some ⟨g, 0, none⟩) (n + 1) cap ∧ base ≤ g ∧ Rw w g (n + 1) cap f := by
  rcases h.2 with ⟨_, h0⟩ | ⟨g, cap, cur, hv, hb, hh, hc, hm, hs, ht⟩
  · omega
  · refine ⟨g, cap, hv, hb, hc, fun j => cur.getD j undef, ?_, ?_⟩
    · intro j hj
      have hjs : j < cur.size := by omega
      constructor
      · rw [cell_of_row w g j cur 5 (0, 0) hh]
        simp [hjs]
      · simp [World.frozen?, hh]
    · intro j hj
      have hjs : j < cur.size := by omega
      have e : (cur.toList.take ((n + 1) * 1))[j]? = some (bc f j) := by rw [ht]; simp [hj]
      rw [List.getElem?_take, if_pos (by omega), Array.getElem?_toList] at e
      simp only [Array.getD_eq_getD_getElem?]
      rw [e]
      rfl
theorem wpList_app1 (w : World) {ops : Array Oper} {rest : List Oper} {o : Oper} {a : Act} {Q : Exit → Act → World → Prop} (hgd : o.guard = none) (s x : Operand)
    (hop : o.op = Op.call { callee := Callee.builtin Builtin.append, args := #[s, x], argTypes := #[50, 50] }) (g n cap : Nat) (f : Nat → By) (hs : a.eval s = .slice (some ⟨g, 0, none⟩) n cap) (hR : Rw w g n cap f)
    (q c : Nat) (hx : a.eval x = .slice (some ⟨q, 0, none⟩) 1 c) (hc : w.cell? ⟨q, 0, none⟩ = some (bc f n)) (hn : n ≤ 1000000)
    (h : ∀ g' cap' w', Rw w' g' (n + 1) cap' f → (g' = g ∨ w.heap.size ≤ g') → w.grownBy w' (some g) → wpList Tryz.prog ops Q rest (a.put o.dst (.slice (some ⟨g', 0, none⟩) (n + 1) cap')) w') : wpList Tryz.prog ops Q (o :: rest) a w := by
  obtain ⟨i0, hi, hz0, hz1, hz2⟩ := info_parts Tryz.info5
  have hap : (List.range n).map (bc f) ++ [bc f n] = (List.range (n + 1)).map (bc f) := by rw [List.range_succ, List.map_append]; rfl
  refine wpList_append_arg w hgd s x 50 hop 5 i0 (.int .u8 0) 1 1 Tryz.underlying50 hi hz0 hz1 hz2 rfl (by decide) g 0 n cap ((List.range n).map (bc f)) hs (by simp) ?_ ⟨q, 0, none⟩ 1 c [bc f n] hx rfl ?_ ?_ ?_ ?_ ?_ ?_ ?_
  · intro j u hu
    have hj : j < n := by have := (List.getElem?_eq_some_iff.1 hu).1; simpa using this
    rw [Nat.zero_add, hR.c j hj, ← hu]
    simp [hj]
  · intro j u hu
    obtain rfl : j = 0 := by have := (List.getElem?_eq_some_iff.1 hu).1; simpa using this
    rw [Addr.add_mid, hc]
    exact hu
  · intro u hu
    rw [List.mem_singleton.1 hu]; rfl
  · intro hroom j hj
    obtain rfl : j = 0 := by simpa using hj
    obtain ⟨h1, F, hA, hF⟩ := hR
    rw [Nat.zero_add, Nat.mul_one, Nat.add_zero]
    exact ⟨by rw [hA.c n (by omega)]; rfl, hA.z n (by omega)⟩
  · unfold maxLen; omega
  · omega
  · intro hroom
    rw [Nat.zero_add, Nat.mul_one]
    refine h g cap _ ?_ (.inl rfl) (gb_sets _ _ _ _)
    obtain ⟨h1, F, hA, hF⟩ := hR
    refine ⟨by omega, _, hA.set n (by omega) (bc f n), fun j hj => ?_⟩
    by_cases e : j = n
    · subst e; rw [if_pos rfl]
    · rw [if_neg e, hF j (by omega)]
  · intro hgr v' w' hown hg
    rw [hap] at hown
    obtain ⟨g', cap', rfl, hb, hR'⟩ := Rw.of_owns hown
    exact h g' cap' w' hR' (.inr hb) ⟨hg.os, hg.tape, hg.output, hg.size, fun k hk _ => hg.block k hk (by intro e; cases e)⟩
/-- A text's bytes as a new row. -/
theorem conv_rw (W : World) (s : ByteArray) (hs : 0 < s.size) : ∃ cap W', (convert 9 50 (.string s)).run Tryz.prog W = .ok (.slice (some ⟨W.heap.size, 0, none⟩) s.size cap) W' ∧ Rw W' W.heap.size s.size cap (bF s) ∧ Below W.heap.size W W' := by
  have h := run_bytes_of_string (P := Tryz.prog) W 9 50 5 s Tryz.underlying9 Tryz.underlying50 Tryz.underlying5
  have hge := grownCap_ge W s.size 0 5
  generalize grownCap W s.size 0 5 = cap at *
  have hsz : (bytesRow s cap).size = cap := by
    unfold bytesRow
    simp
    have : s.data.size = s.size := rfl
    omega
  refine ⟨cap, _, h, ⟨hge, fun j => (bytesRow s cap).getD j undef, ?_, ?_⟩, ?_⟩
  · intro j hj
    have hh : (W.drew.alloc (.cells (bytesRow s cap) 5 ((bytesRow s cap).size, (bytesRow s cap).size + 1))).heap[W.heap.size]? = some (.cells (bytesRow s cap) 5 ((bytesRow s cap).size, (bytesRow s cap).size + 1)) := World.alloc_heap_new W.drew _
    constructor
    · rw [cell_of_row _ W.heap.size j _ 5 _ hh]
      simp [hsz, hj]
    · simp only [World.frozen?, hh]
      simp [hsz]
      omega
  · intro j hj
    have hd : s.data.size = s.size := rfl
    have e : (bytesRow s cap)[j]? = some (bc (bF s) j) := by
      unfold bytesRow
      rw [Array.getElem?_append_left (by simp; omega), Array.getElem?_map, Array.getElem?_eq_getElem (by omega)]
      unfold bc
      rw [← bF_bt]
      unfold bt
      rw [Array.getElem?_eq_getElem (by omega)]
      rfl
    simp only [Array.getD_eq_getD_getElem?]
    rw [e]
    rfl
  · exact ((Below.refl _ W).drew).alloc (Nat.le_refl _) _
end Go.Proofs.YtjaljnfijhfkcaaGreatDoor
/- A stream's bytes: the program's. -/
set_option linter.all false
set_option maxRecDepth 100000
namespace Go.Proofs.YtjaljnfijhfkcaaGreatDoor
open Go.RowKit Go.Shelf Go.Sort Go.Lib
attribute [local go_sem] Oper.semAt_some
/-- The first k blocks of a stream. -/
def stS (key : ByteArray) (f : Nat → By) : Nat → ByteArray
  | 0 => ⟨#[]⟩
  | k + 1 => stS key f k ++ tx (encF key (ctF f k))
theorem stS_size (key : ByteArray) (f : Nat → By) (k : Nat) : (stS key f k).size = 16 * k := by
  induction k with
  | zero => rfl
  | succ k ih => rw [stS, ByteArray.size_append, ih, tx_size]; omega
/-- n bytes of a stream. -/
def smS (key : ByteArray) (f : Nat → By) (n : Nat) : ByteArray := (stS key f ((n + 15) / 16)).extract 0 n
theorem smS_size (key : ByteArray) (f : Nat → By) (n : Nat) : (smS key f n).size = n := by unfold smS; rw [ByteArray.size_extract, stS_size]; omega
theorem stS_pre (key : ByteArray) (f : Nat → By) (k d n : Nat) (h : n ≤ 16 * k) : (stS key f (k + d)).extract 0 n = (stS key f k).extract 0 n := by
  induction d with
  | zero => rfl
  | succ d ih => rw [← Nat.add_assoc, stS, ext_app_lo _ _ _ (by rw [stS_size]; omega), ih]
theorem smS_pre (key : ByteArray) (f : Nat → By) (n m : Nat) (h : n ≤ m) : (smS key f m).extract 0 n = smS key f n := by
  unfold smS
  obtain ⟨d, hd⟩ := Nat.exists_eq_add_of_le (show (n + 15) / 16 ≤ (m + 15) / 16 by omega)
  rw [ByteArray.extract_extract, hd, show min (0 + n) m = n by omega, stS_pre _ _ _ _ _ (by omega)]
theorem hf_tx (h : Nat → By) : (hfL (col h) 4).map (Value.int .u8) = strCells (tx h) := by
  rw [← txt_col]
  unfold txt strCells
  rw [mkS_list, List.map_map]
  refine List.map_congr_left fun v hv => ?_
  have e : hfL (col h) 4 = (List.range 16).map fun j => ((h j).val : Int) := by
    unfold hfL hfL hfL hfL hfL col
    simp only [w4_wd]
    rfl
  rw [e] at hv
  obtain ⟨j, _, rfl⟩ := List.mem_map.1 hv
  have := (h j).2
  simp
theorem ownsRow_take {w : World} {base g n k cap : Nat} {xs : List Value} (h : w.ownsRow base 5 1 (.slice (some ⟨g, 0, none⟩) n cap) n xs) (hk : k ≤ n) : w.ownsRow base 5 1 (.slice (some ⟨g, 0, none⟩) k cap) k (xs.take k) := by
  obtain ⟨hl, h2⟩ := h
  rcases h2 with ⟨h, _⟩ | ⟨g', cap', cur, hv, hb, hh, hc, hm, hs, ht⟩
  · cases h
  · cases hv
    refine ⟨by rw [List.length_take]; omega, .inr ⟨g, cap, cur, rfl, hb, hh, by omega, hm, hs, ?_⟩⟩
    rw [← ht, List.take_take]
    congr 1
    omega
theorem strCells_take (s : ByteArray) (n : Nat) : (strCells s).take n = strCells (s.extract 0 n) := by
  unfold strCells
  rw [ext_list, List.drop_zero, Nat.sub_zero, ← List.map_take]
/-- What Stream refuses. -/
def rfn (key first : ByteArray) (n : Int) : Int := if n < 0 ∨ 65536 < n then 13 else rfs key first
set_option maxHeartbeats 2000000 in
theorem stream_no (key first : ByteArray) (n : Int) (h : rfn key first n ≠ 0) (w : World) :
    Calls Tryz.prog 77 #[.string key, .string first, .int .i64 n] w fun e w' => e = .returned (.tuple #[.string ⟨#[]⟩, .int .i64 (rfn key first n)]) ∧ Below w.heap.size w w' := by
  have C := fun W => refused_any key first W
  by_cases h1 : n < 0
  · have e : rfn key first n = 13 := by unfold rfn; rw [if_pos (.inl h1)]
    rw [e]
    clear e h
    go_enter Tryz.func77, Tryz.ntmps77
    go_wp2_with fail
    refine bodyPost_ret (v := .tuple #[.string ⟨#[]⟩, .int .i64 13]) (by simp [results, Tryz.results77, go_sem]) rfl ?_
    exact ⟨rfl, Bel.al (Below.refl _ w) _⟩
  · by_cases h2 : 65536 < n
    · have e : rfn key first n = 13 := by unfold rfn; rw [if_pos (.inr h2)]
      rw [e]
      clear e h
      go_enter Tryz.func77, Tryz.ntmps77
      go_wp2_with fail
      refine bodyPost_ret (v := .tuple #[.string ⟨#[]⟩, .int .i64 13]) (by simp [results, Tryz.results77, go_sem]) rfl ?_
      exact ⟨rfl, Bel.al (Below.refl _ w) _⟩
    · have e : rfn key first n = rfs key first := by unfold rfn; rw [if_neg (by omega)]
      rw [e] at h ⊢
      clear e
      generalize rfs key first = r at *
      go_enter Tryz.func77, Tryz.ntmps77
      go_wp2_with (go_at_call 95; refine (C _).mono ?_; rintro e w1 ⟨rfl, rfl⟩)
      refine bodyPost_ret (v := .tuple #[.string ⟨#[]⟩, .int .i64 r]) (by simp [results, Tryz.results77, go_sem]) rfl ?_
      exact ⟨rfl, Bel.al (Below.refl _ w) _⟩
end Go.Proofs.YtjaljnfijhfkcaaGreatDoor
/- Stream. -/
set_option linter.all false
set_option maxRecDepth 100000
namespace Go.Proofs.YtjaljnfijhfkcaaGreatDoor
open Go.RowKit Go.Shelf Go.Sort Go.Lib
attribute [local go_sem] Oper.semAt_some
/-- What the rounds keep: the number, the cipher, the row and its slice. -/
structure IS (w : World) (key : ByteArray) (b p5 g p10 n k : Nat) (s : ByteArray) (W : World) : Prop where
  bel : Below w.heap.size w W
  num : Arr W p5 1 (fun _ => .int .i64 (n : Int))
  cip : Either W b key
  box : Arr W p10 1 (fun _ => .slice (some ⟨g, 0, none⟩) (16 * k) (n + 16))
  row : W.ownsRow w.heap.size 5 1 (.slice (some ⟨g, 0, none⟩) (16 * k) (n + 16)) (16 * k) (strCells s)
def ISx (w : World) (key : ByteArray) (b p5 g p10 n : Nat) (T : Nat → ByteArray) (pre : List Nat) (W : World) : Prop := IS w key b p5 g p10 n pre.length (T pre.length) W ∧ 16 * pre.length < n + 16
def IXx (w : World) (key : ByteArray) (b p5 g p10 n : Nat) (T : Nat → ByteArray) (pre : List Nat) (W : World) : Prop := ∃ k, IS w key b p5 g p10 n k (T k) W ∧ k = (n + 15) / 16
theorem Either.kept {W W' : World} {b : Nat} {key : ByteArray} {row : Option Nat} (h : Either W b key) (hg : W.grownBy W' row) (hr : ∀ r, row = some r → ∃ o : Obj, W.heap[r]? = some o ∧ o.isCells = false) : Either W' b key := by
  rcases h with h | h
  · exact .inl (arr_kept h hg hr)
  · exact .inr (arr_kept h hg hr)
theorem Either.other {W W' : World} {b x : Nat} {key : ByteArray} (h : Either W b key) (hg : W.grownBy W' (some x)) (hne : b ≠ x) : Either W' b key := by
  rcases h with h | h
  · exact .inl (gb_arr hg hne h)
  · exact .inr (gb_arr hg hne h)
theorem row_kept {W W' : World} {base g n cap : Nat} {xs : List Value} {row : Option Nat} (h : W.ownsRow base 5 1 (.slice (some ⟨g, 0, none⟩) n cap) n xs) (hg : W.grownBy W' row) (hr : ∀ r, row = some r → ∃ o : Obj, W.heap[r]? = some o ∧ o.isCells = false) : W'.ownsRow base 5 1 (.slice (some ⟨g, 0, none⟩) n cap) n xs := by
  refine h.kept hg (.inr ?_)
  intro e
  obtain ⟨o, ho, hc⟩ := hr g (by rw [← e]; rfl)
  rcases h.2 with ⟨h, _⟩ | ⟨g', cap', cur, hv, _, hh, _⟩
  · cases h
  · cases hv
    rw [hh] at ho
    cases ho
    cases hc
theorem IS.own {w A A' : World} {key : ByteArray} {b p5 g p10 n k : Nat} {s : ByteArray} {row : Option Nat} (h : IS w key b p5 g p10 n k s A) (hg : A.grownBy A' row) (hr : ∀ r, row = some r → w.heap.size ≤ r ∧ ∃ o : Obj, A.heap[r]? = some o ∧ o.isCells = false) : IS w key b p5 g p10 n k s A' := by
  have hr' : ∀ r, row = some r → ∃ o : Obj, A.heap[r]? = some o ∧ o.isCells = false := fun r e => (hr r e).2
  exact ⟨h.bel.grown hg h.bel.size (fun r e => (hr r e).1), arr_kept h.num hg hr', h.cip.kept hg hr', arr_kept h.box hg hr', row_kept h.row hg hr'⟩
theorem ISx_own (w : World) (key : ByteArray) (b p5 g p10 n : Nat) (T : Nat → ByteArray) (B : Nat) (hB : w.heap.size ≤ B) : OwnFrom B (ISx w key b p5 g p10 n T) :=
  fun s A A' row h hg hr => ⟨IS.own h.1 hg (fun r e => ⟨Nat.le_trans hB (hr r e).1, (hr r e).2⟩), h.2⟩
theorem IXx_own (w : World) (key : ByteArray) (b p5 g p10 n : Nat) (T : Nat → ByteArray) (B : Nat) (hB : w.heap.size ≤ B) : OwnFrom B (IXx w key b p5 g p10 n T) := by
  rintro s A A' row ⟨k, h, hk⟩ hg hr
  exact ⟨k, IS.own h hg (fun r e => ⟨Nat.le_trans hB (hr r e).1, (hr r e).2⟩), hk⟩
theorem Either.drew {W : World} {b : Nat} {key : ByteArray} (h : Either W b key) : Either W.drew b key := h
theorem gb_undrew {W A : World} {r : Option Nat} (h : W.drew.grownBy A r) : W.grownBy A r := ⟨h.os, h.tape, h.output, h.size, h.block⟩
theorem cells_of {W : World} {b j : Nat} {v : Value} {o : Obj} (h : W.cell? ⟨b, j, none⟩ = some v) (ho : W.heap[b]? = some o) : o.isCells = true := by
  unfold World.cell? at h
  simp only [ho] at h
  cases o <;> first | rfl | simp at h
theorem ko_one {W W' : World} {b j : Nat} {v : Value} (hg : W.grownBy W' (some b)) (h : W.cell? ⟨b, j, none⟩ = some v) : KeepsOthers W W' :=
  KeepsOthers.of_grownBy hg (fun i o e ho => by cases e; exact cells_of h ho)
theorem Either.some {W : World} {b : Nat} {key : ByteArray} (h : Either W b key) : ∃ v, W.cell? ⟨b, 0, none⟩ = Option.some v := by
  rcases h with h | h
  · exact ⟨_, Arr.c h 0 (by omega)⟩
  · exact ⟨_, Arr.c h 0 (by omega)⟩
theorem ko_row {W W' : World} {base g n cap : Nat} {xs : List Value} (h : W.ownsRow base 5 1 (.slice (some ⟨g, 0, none⟩) n cap) n xs) (hg : W.grownBy W' (some g)) : KeepsOthers W W' :=
  KeepsOthers.of_grownBy hg (fun i o e ho => by
    cases e
    rcases h.2 with ⟨h, _⟩ | ⟨g', cap', cur, hv, _, hh, _⟩
    · cases h
    · cases hv
      rw [hh] at ho
      cases ho
      rfl)
theorem MkC_own (B : Nat) : OwnFrom B (fun (s : List Nat × Nat) W => MkC s.1 s.2 W) := fun s A A' row h _ _ => h
theorem True_own (B : Nat) : OwnFrom B (fun (_ : Unit) (W : World) => True) := fun _ _ _ _ _ _ _ => trivial
set_option maxHeartbeats 8000000 in
theorem stream_core (key first : ByteArray) (hk : Key key) (n : Nat) (hn : n ≤ 65536) (f : Nat → By) (L : List Value) (w : World) (HL : Hid (L = frL key))
    (C28 : ∀ W, Calls Tryz.prog 95 #[.string key, .string first] W fun e w' => e = .returned (.int .i64 0) ∧ w' = W)
    (C30 : ∀ W, Calls Tryz.prog 97 #[.string first] W fun e w' => e = .returned (bv (col f)) ∧ Below W.heap.size W w') :
    Calls Tryz.prog 77 #[.string key, .string first, .int .i64 (n : Int)] w fun e w' => e = .returned (.tuple #[.string (smS key f n), .int .i64 0]) ∧ Below w.heap.size w w' := by
  have n0 : (0 : Int) ≤ (n : Int) := by omega
  have n1 : (n : Int) ≤ 65536 := by omega
  obtain ⟨i0, hi, hz0, hz1, hz2⟩ := info_parts Tryz.info5
  refine (callsIn_wide (n := 8)).1 ?_
  refine callsIn_of_wp_marks Tryz.func77 rfl trivial ?_ rfl
  simp only [Tryz.ntmps77, List.size_toArray, List.length_cons, List.length_nil, Nat.reduceAdd, Nat.reduceSub, Array.replicate_succ, Array.replicate_zero, List.push_toArray, List.append_toArray, List.nil_append, List.cons_append]
  refine wpIn_wide.2 ?_
  go_wp2_with fail
  refine (C28 _).mono ?_
  rintro e w1 ⟨rfl, rfl⟩
  have N5 : Arr (w.alloc (.cells #[.int .i64 (n : Int)] 3)) w.heap.size 1 (fun _ => .int .i64 (n : Int)) := Arr.new _ _ 3 _ rfl _ 1 (fun j hj => one_at _ j hj)
  have B1 : Below w.heap.size w (w.alloc (.cells #[.int .i64 (n : Int)] 3)) := Bel.al (Below.refl _ w) _
  clear C28
  go_upto_region 6 with (fail)
  generalize w.alloc (.cells #[.int .i64 (n : Int)] 3) = w1 at N5 B1 ⊢
  obtain ⟨p5, e5⟩ : ∃ p, w.heap.size = p := ⟨_, rfl⟩
  rw [e5] at N5 ⊢
  have H5 : Hid (w.heap.size = p5) := e5
  clear e5
  refine wp_region_list ?_
  refine wpList_plain (by rfl) fun K1 hK1 => ?_
  have H1 : Hid _ := hK1
  clear hK1
  go_wp2_with fail
  refine H1.out _ _ ?_
  clear H1
  refine wpList_plain (by rfl) fun K1 hK1 => ?_
  have H1 : Hid _ := hK1
  clear hK1
  go_wp2_with fail
  refine H1.out _ _ ?_
  clear H1
  rw [frL_is, ← HL.out]
  have HS : L.toArray.size = 321 := by rw [HL.out, List.size_toArray, frL_len]
  refine wpList_plain (by rfl) fun K1 hK1 => ?_
  have H1 : Hid _ := hK1
  clear hK1
  go_wp2_with fail
  refine H1.out _ _ ?_
  clear H1
  refine wpList_store_mid (by rfl) 166 (.tmp 9) (.tmp 25) (by rfl) _ _ L.toArray (by rfl) (by rfl) (by rw [HS]; exact (fresh_zero _).there) (by rw [HS]; exact Tryz.info166) (by rw [HL.out]; exact all_oneCell_toArray (frL_one key)) ?_
  refine wpList_nil ?_
  have F := fresh_new w1 key
  have B := fresh_below w1 key
  have eL : L.toArray.toList = L := rfl
  rw [eL]
  rw [← HL.out] at F B
  clear eL HS
  have N6 := N5.to' B
  have B6 := Bel.call B1 B
  have bz : w1.heap.size < ((w1.alloc (.cells Tryz.zeroCells166 166)).setCells w1.heap.size 0 L).heap.size := F.lt
  have pz : p5 < w1.heap.size := N5.lt
  generalize (w1.alloc (.cells Tryz.zeroCells166 166)).setCells w1.heap.size 0 L = w3 at F B N6 B6 bz ⊢
  have B1s := B1.size
  generalize w1.heap.size = b at *
  clear N5 B1 B
  have c5 := N6.c 0 (by omega)
  obtain ⟨wm, hmk, hown, hgm⟩ := run_make_own (P := Tryz.prog) w3 w.heap.size 50 5 i0 (.int .u8 0) 1 Tryz.underlying50 hi hz0 hz1 .i64 .i64 (n + 16) (by rw [hz2]; omega) (by unfold maxLen; omega) B6.size
  have en : ((n + 16 : Nat) : Int) = (n : Int) + 16 := by omega
  rw [en] at hmk
  clear en
  have hmb : Below w3.heap.size w3 wm := ⟨hgm.os, hgm.tape, hgm.output, hgm.size, fun k hk => hgm.block k hk (by intro e; cases e)⟩
  go_upto_region 8 with (fail)
  clear hmk c5
  have N7 := (N6.to' hmb).al' (.cells #[.slice (some ⟨w3.heap.size, 0, none⟩) 0 (n + 16)] 50)
  have F7 : Fresh (wm.alloc (.cells #[.slice (some ⟨w3.heap.size, 0, none⟩) 0 (n + 16)] 50)) b key := Arr.al' (Cph.to F hmb) _
  have X7 : Arr (wm.alloc (.cells #[.slice (some ⟨w3.heap.size, 0, none⟩) 0 (n + 16)] 50)) wm.heap.size 1 (fun _ => .slice (some ⟨w3.heap.size, 0, none⟩) 0 (n + 16)) := Arr.new _ _ 50 _ rfl _ 1 (fun j hj => one_at _ j hj)
  have O7 := hown.alloc (.cells #[.slice (some ⟨w3.heap.size, 0, none⟩) 0 (n + 16)] 50)
  have B7 := Bel.al (Bel.call B6 hmb) (.cells #[.slice (some ⟨w3.heap.size, 0, none⟩) 0 (n + 16)] 50)
  have gz : w3.heap.size < wm.heap.size := (hown.lt w3.heap.size rfl).2
  have B6s := B6.size
  clear N6 F hown hgm hmb B6
  generalize wm.alloc (.cells #[.slice (some ⟨w3.heap.size, 0, none⟩) 0 (n + 16)] 50) = w7 at N7 F7 X7 O7 B7 ⊢
  generalize w3.heap.size = g at *
  generalize wm.heap.size = p10 at *
  have HO : Hid (p5 < b ∧ b < g ∧ g < p10 ∧ w.heap.size ≤ p5) := ⟨pz, bz, gz, by rw [H5.out]; omega⟩
  have HP5 : Hid (w.heap.size = p5) := H5
  clear bz gz pz B1s B6s H5
  go_wp2_with fail
  refine (C30 _).mono ?_
  rintro e w8 ⟨rfl, hb8⟩
  have N8 := N7.to' hb8
  have F8 := Cph.to F7 hb8
  have X8 := X7.to' hb8
  have O8 := O7.kept (gb_of (r := none) hb8) (.inr (by simp [Value.ownBlock]))
  have B8 := Bel.call B7 hb8
  clear N7 F7 X7 O7 B7 hb8 C30
  go_wp2_with (go_at_call 99; refine (counted_any (col f) _).mono ?_; rintro e w9 ⟨rfl, rfl⟩)
  have N9 := N8.al' (.cells #[.int .u32 (col f 0), .int .u32 (col f 1), .int .u32 (col f 2), .int .u32 (col f 3)] 168)
  have F9 : Fresh (w8.alloc (.cells #[.int .u32 (col f 0), .int .u32 (col f 1), .int .u32 (col f 2), .int .u32 (col f 3)] 168)) b key := Arr.al' F8 _
  have X9 := X8.al' (.cells #[.int .u32 (col f 0), .int .u32 (col f 1), .int .u32 (col f 2), .int .u32 (col f 3)] 168)
  have O9 := O8.alloc (.cells #[.int .u32 (col f 0), .int .u32 (col f 1), .int .u32 (col f 2), .int .u32 (col f 3)] 168)
  have B9 := Bel.al B8 (.cells #[.int .u32 (col f 0), .int .u32 (col f 1), .int .u32 (col f 2), .int .u32 (col f 3)] 168)
  have V9 : Arr (w8.alloc (.cells #[.int .u32 (col f 0), .int .u32 (col f 1), .int .u32 (col f 2), .int .u32 (col f 3)] 168)) w8.heap.size 4 (fun j => .int .u32 (col f j)) := Arr.new _ _ 168 _ rfl _ 4 (h4_at _)
  have l10 : p10 < w8.heap.size := X8.lt
  clear N8 F8 X8 O8 B8
  generalize w8.alloc (.cells #[.int .u32 (col f 0), .int .u32 (col f 1), .int .u32 (col f 2), .int .u32 (col f 3)] 168) = w9 at N9 F9 X9 O9 B9 V9 ⊢
  generalize w8.heap.size = bx at *
  have sz : w.heap.size ≤ w9.heap.size := B9.size
  have lx : p10 < w9.heap.size := X9.lt
  have lg : g < w9.heap.size := by have := HO.out; omega
  have lb : b < w9.heap.size := by have := HO.out; omega
  have nb5 : p5 ≠ b := by have := HO.out; omega
  have n5g : p5 ≠ g := by have := HO.out; omega
  have n5x : p5 ≠ p10 := by have := HO.out; omega
  have nbg : b ≠ g := by have := HO.out; omega
  have nbx : b ≠ p10 := by have := HO.out; omega
  have ngx : g ≠ p10 := by have := HO.out; omega
  refine (wpIn_wide (n := 8)).1 ?_
  refine wpIn_rangeFunc_made rfl (by omega) (gf := 113) (lb := #[.pointer (some ⟨bx, 0, none⟩)]) rfl trivial (enters_of Tryz.func113 (by kernel_rfl) rfl)
    (counted_seq f _ bx b g p10 (n / 16 + 2) (by omega) w9 lb lg lx V9) KC.t (fun W l o o' _ h1 h2 => KC.b W l o o' h1 h2) KC.g (Below.refl _ _) (fun _ => rfl)
    (fun k e => by cases e) (MkC_own _) (True_own _)
    (ISx w key b p5 g p10 n (stS key f)) (IXx w key b p5 g p10 n (stS key f)) (ISx_own w key b p5 g p10 n _ _ sz) (IXx_own w key b p5 g p10 n _ _ sz) (fun s A B h hg => ⟨IS.own h.1 hg (fun r e => by cases e), h.2⟩) (fun s A h => by have := h.2; omega)
    ⟨⟨B9, N9, .inl F9, X9, O9⟩, by simp⟩ ?round ?done ?stop
  case round =>
    clear N9 F9 X9 O9 B9 V9
    rintro l pre x W hI hMk
    obtain ⟨hx, hpre⟩ := hMk
    have HX : Hid (x = pre.length) := hx
    clear hx hpre
    unfold encC bv
    gi_wp2
    refine ⟨World.grownBy_alloc W _ none, ?_⟩
    intro W2 hU hI2 hM2
    have K1 : Arr (W.alloc (.cells #[.int .u32 (col (ctF f x) 0), .int .u32 (col (ctF f x) 1), .int .u32 (col (ctF f x) 2), .int .u32 (col (ctF f x) 3)] 168)) W.heap.size 4 (fun j => .int .u32 (col (ctF f x) j)) := Arr.new _ _ 168 _ rfl _ 4 (h4_at _)
    have JK := hU.arr K1
    have t1 : p10 < W.heap.size := hI.1.box.lt
    clear hU K1 hM2 hI
    generalize W.heap.size = t at *
    obtain ⟨hI3, hlt⟩ := hI2
    rw [← HX.out] at hI3 hlt
    obtain ⟨jB, JN, JC, JX, JR⟩ := hI3
    have c5 := JN.c 0 (by omega)
    have c10 := JX.c 0 (by omega)
    have hd : 1 ≤ 8 - 1 - 1 := by omega
    have x0 : (0 : Int) ≤ (x : Int) := by omega
    by_cases hge : n ≤ 16 * x
    · have hgi : (n : Int) ≤ 16 * (x : Int) := by omega
      have hgj : (n : Int) ≤ ((16 * x : Nat) : Int) := by omega
      gi_wp2
      exact ⟨rfl, KeepsOthers.refl _, x, ⟨jB, JN, JC, JX, JR⟩, by omega⟩
    · have hgi : ¬ (n : Int) ≤ 16 * (x : Int) := by omega
      have hgj : ¬ (n : Int) ≤ ((16 * x : Nat) : Int) := by omega
      have EN := fun A (hA : Either A b key) => encrypted_any key hk b (ctF f x) A hA
      have AP := fun A (hA : A.ownsRow w.heap.size 5 1 (.slice (some ⟨g, 0, none⟩) (16 * x) (n + 16)) (16 * x) (strCells (stS key f x))) => appended_fits (col (encF key (ctF f x))) w.heap.size (16 * x) g (n + 16) (strCells (stS key f x)) A hA (by omega)
      rw [hf_tx, ← strCells_app] at AP
      unfold bv at EN AP
      have HST : Hid (stS key f (x + 1) = stS key f x ++ tx (encF key (ctF f x))) := rfl
      have dk := JK.c
      gi_wp2
      gi_region_with (first
        | (refine ⟨trivial, ?_⟩; gi_at_call 96; refine (CallsIn.inRound l (callsIn_wide.2 (EN _ ?_))).mono ?_; (first | exact JC | exact JC.drew); rintro e w5 ⟨rfl, hG5', hM5⟩; have hG5 : W2.grownBy w5 (some b) := (by first | exact hG5' | exact gb_undrew hG5'); have X5 := gb_arr hG5 nbx.symm JX; have c10' := X5.c 0 (by omega); have O5 := JR.kept hG5 (.inr (by simp [Value.ownBlock]; omega)))
        | (refine ⟨trivial, ?_⟩; gi_at_call 100; refine (CallsIn.inRound l (callsIn_wide.2 (AP _ O5))).mono ?_; rintro e w6 ⟨rfl, O6, hG6⟩; have X6 := gb_arr hG6 ngx.symm X5; have c106 := X6.c 0 (by omega); have z106 := X6.z 0 (by omega)))
      all_goals
        obtain ⟨v0, hv0⟩ := JC.some
        refine ⟨((ko_one hG5 hv0).trans (ko_row O5 hG6)).trans (KeepsOthers.setCell _ _ _), (KC.one hG5 (.inl rfl)).t ((KC.one hG6 (.inr (.inl rfl))).t (KC.one (gb_set w6 p10 0 _) (.inr (.inr rfl)))), ?_⟩
        show IS w key b p5 g p10 n (pre ++ [x]).length (stS key f (pre ++ [x]).length) _ ∧ 16 * (pre ++ [x]).length < n + 16
        rw [List.length_append, List.length_singleton, ← HX.out, HST.out, show 16 * (x + 1) = 16 * x + 16 by omega]
        refine ⟨⟨?_, ?_, ?_, ?_, ?_⟩, by omega⟩
        · exact ((jB.grown hG5 jB.size (fun r e => by cases e; have := HO.out; omega)).grown hG6 (Nat.le_trans jB.size hG5.size) (fun r e => by cases e; have := HO.out; omega)).setCell (p := ⟨p10, 0, none⟩) (by have := HO.out; show w.heap.size ≤ p10; omega) _
        · exact (gb_arr hG6 n5g (gb_arr hG5 nb5 JN)).other n5x.symm _
        · exact Either.other (Either.other (.inr hM5) hG6 nbg) (gb_set _ _ _ _) nbx
        · rw [show 16 * (x + 1) = 16 * x + 16 by omega]
          exact (X6.set 0 (by omega) _).congr (fun j hj => by rw [if_pos (by omega)])
        · rw [show 16 * (x + 1) = 16 * x + 16 by omega]
          exact O6.kept (gb_set w6 p10 0 _) (.inr (by simp [Value.ownBlock]; omega))
  case done =>
    rintro D xs W _ h
    exact h.elim
  case stop =>
    clear N9 F9 X9 O9 B9 V9
    rintro De pre W hD _ ⟨k, ⟨jB, JN, JC, JX, JR⟩, hkk⟩ hK
    have hnk : n ≤ 16 * k := by omega
    have cv := convR W _ n _ (smS key f n) (by
      have h := ownsRow_take JR hnk
      rw [strCells_take] at h
      unfold smS
      rw [← hkk]
      exact h) (smS_size key f n)
    have c5 := JN.c 0 (by omega)
    have c10 := JX.c 0 (by omega)
    obtain ⟨T, hT⟩ : ∃ T, smS key f n = T := ⟨_, rfl⟩
    rw [hT] at cv
    have HT : Hid (smS key f n = T) := hT
    clear hT
    clear JR JX JC JN hkk hnk
    gi_wp2
    go_wp2_with fail
    try rw [Exit.noGoto_ret]
    refine ⟨by simp, .inl ⟨_, _, rfl, run_takeDeferred hK, ?_⟩⟩
    refine ⟨.tuple #[.string T, .int .i64 0], by simp [results, Tryz.results77, go_sem], ?_, ?_⟩
    · rw [HT.out]
    · exact jB.trans (belowK_b (w := w) (Nat.le_refl _) W De _ _ (Nat.le_trans sz hD) hK rfl rfl)
theorem stream_any (key first : ByteArray) (n : Int) (w : World) :
    Calls Tryz.prog 77 #[.string key, .string first, .int .i64 n] w fun e w' => e = .returned (.tuple #[.string (if rfn key first n = 0 then smS key (bF first) n.toNat else ⟨#[]⟩), .int .i64 (rfn key first n)]) ∧ Below w.heap.size w w' := by
  by_cases h : rfn key first n = 0
  · have hn : 0 ≤ n ∧ n ≤ 65536 := by
      unfold rfn at h
      by_cases c : n < 0 ∨ 65536 < n
      · rw [if_pos c] at h; omega
      · omega
    have h2 : rfs key first = 0 := by
      unfold rfn at h
      rw [if_neg (by omega)] at h
      exact h
    obtain ⟨hk, hs⟩ := rfs_0 h2
    have C28 := fun W => refused_any key first W
    rw [h2] at C28
    rw [if_pos h, h]
    obtain ⟨m, rfl⟩ := Int.eq_ofNat_of_zero_le hn.1
    exact stream_core key first hk m (by omega) (bF first) (frL key) w rfl C28 (fun W => blockOf_any first hs W)
  · rw [if_neg h]
    exact stream_no key first n h w
end Go.Proofs.YtjaljnfijhfkcaaGreatDoor
/- Texts crossed with a stream; tags; hashes of texts. -/
set_option linter.all false
set_option maxRecDepth 100000
namespace Go.Proofs.YtjaljnfijhfkcaaGreatDoor
open Go.RowKit Go.Sort Lin
/-- Two texts xor each other, as long as the first. -/
def xL (n : Nat) (f g : Nat → By) : List Int := (List.range n).map fun j => ((xr (f j) (g j)).val : Int)
def xS (a b : ByteArray) : ByteArray := mkS (xL a.size (bF a) (bF b))
theorem xS_size (a b : ByteArray) : (xS a b).size = a.size := by unfold xS xL; rw [mkS_size]; simp
/-- A text's bytes as a new row, of no bytes, too. -/
theorem conv_row (W : World) (s : ByteArray) : ∃ cap W', (convert 9 50 (.string s)).run Tryz.prog W = .ok (.slice (some ⟨W.heap.size, 0, none⟩) s.size cap) W' ∧ Arr W' W.heap.size s.size (bc (bF s)) ∧ W.heap.size < W'.heap.size ∧ Below W.heap.size W W' := by
  have h := run_bytes_of_string (P := Tryz.prog) W 9 50 5 s Tryz.underlying9 Tryz.underlying50 Tryz.underlying5
  have hge := grownCap_ge W s.size 0 5
  generalize grownCap W s.size 0 5 = cap at *
  have hsz : (bytesRow s cap).size = cap := by
    unfold bytesRow
    simp
    have : s.data.size = s.size := rfl
    omega
  refine ⟨cap, _, h, ?_, ?_, ?_⟩
  · intro j hj
    have hh : (W.drew.alloc (.cells (bytesRow s cap) 5 ((bytesRow s cap).size, (bytesRow s cap).size + 1))).heap[W.heap.size]? = some (.cells (bytesRow s cap) 5 ((bytesRow s cap).size, (bytesRow s cap).size + 1)) := World.alloc_heap_new W.drew _
    have hd : s.data.size = s.size := rfl
    have e : (bytesRow s cap)[j]? = some (bc (bF s) j) := by
      unfold bytesRow
      rw [Array.getElem?_append_left (by simp; omega), Array.getElem?_map, Array.getElem?_eq_getElem (by omega)]
      unfold bc
      rw [← bF_bt]
      unfold bt
      rw [Array.getElem?_eq_getElem (by omega)]
      rfl
    constructor
    · rw [cell_of_row _ W.heap.size j _ 5 _ hh, e]
    · simp only [World.frozen?, hh]
      simp [hsz]
      omega
  · show W.heap.size < (W.drew.alloc _).heap.size
    rw [World.size_alloc]
    exact Nat.lt_succ_self _
  · exact ((Below.refl _ W).drew).alloc (Nat.le_refl _) _
/-- A sealer. -/
def sl (key nonce : ByteArray) (x y u v : Int) : Value := .agg #[.string key, .string nonce, .int .u64 x, .int .u64 y, .int .u64 u, .int .u64 v]
/-- A row of which the first k bytes are crossed. -/
def crF (f g : Nat → By) (k j : Nat) : By := if j < k then xr (f j) (g j) else f j
set_option maxHeartbeats 1000000 in
theorem crossed_core (key nonce text st T : ByteArray) (x y u v : Int) (hn : nonce.size = 12) (hst : st.size = text.size) (hm : text.size ≤ 1000000) (hT : mkS (xL st.size (bF st) (bF text)) = T) (w : World)
    (C40 : ∀ W, Calls Tryz.prog 77 #[.string key, .string (nonce ++ ⟨#[0, 0, 0, 2]⟩), .int .i64 (text.size : Int)] W fun e w' => e = .returned (.tuple #[.string st, .int .i64 0]) ∧ Below W.heap.size W w') :
    Calls Tryz.prog 54 #[sl key nonce x y u v, .string text] w fun e w' => e = .returned (.string T) ∧ Below w.heap.size w w' := by
  unfold sl
  have n12 : (nonce.size : Int) = 12 := by omega
  have tm : (text.size : Int) ≤ 1000000 := by omega
  go_enter Tryz.func54, Tryz.ntmps54
  go_wp2_with fail
  refine (C40 _).mono ?_
  rintro e w1 ⟨rfl, B1⟩
  replace B1 : Below w.heap.size w w1 := Bel.call (by go_grown) B1
  clear C40
  obtain ⟨cap, w2, hcv, A, hg, B2⟩ := conv_row w1 st
  replace B2 := Bel.call B1 B2
  have B1s := B1.size
  rw [hst] at hcv A hT
  clear B1 hst
  go_wp2_with fail
  clear hcv
  generalize w1.heap.size = g at *
  obtain ⟨n, en⟩ : ∃ n, text.size = n := ⟨_, rfl⟩
  rw [en] at A hT ⊢
  have HN : Hid (text.size = n) := en
  have n1 : (n : Int) ≤ 1000000 := by omega
  clear en
  go_loopw [24] (fun i wr => ∃ k : Nat, k ≤ n ∧ i = .int .i64 k ∧ Below w.heap.size w wr ∧ g < wr.heap.size ∧ Arr wr g n (bc (crF (bF st) (bF text) k))) (fun i _ => n - (intOf i).toNat)
  case atStart => exact ⟨0, by omega, rfl, B2, hg, A.congr fun j _ => by unfold bc crF; rw [if_neg (by omega)]⟩
  case round =>
    clear A hg B2
    obtain ⟨k, hk, rfl, hB, hg, A⟩ := hrel
    by_cases hlt : k < n
    · have k0 : (0 : Int) ≤ (k : Int) := by omega
      have k1 : (k : Int) < (n : Int) := by omega
      have I := fun W => idxS text k (by rw [HN.out]; exact hlt) W
      rw [bF_bt] at I
      have X := xr8 (bF st k) (bF text k)
      have r0 := fun ds os => cell_regrown (A.cv k hlt (.int .u8 ((bF st k).val : Int)) (by unfold bc crF; rw [if_neg (by omega)])) ds os
      have HS : Hid (∀ j, j < n → (if j = k then Value.int .u8 ((xr (bF st k) (bF text k)).val : Int) else bc (crF (bF st) (bF text) k) j) = bc (crF (bF st) (bF text) (k + 1)) j) := by
        show ∀ j, j < n → _
        intro j hj
        unfold bc crF
        by_cases e : j = k
        · subst e; rw [if_pos rfl, if_pos (by omega)]
        · rw [if_neg e]
          by_cases e2 : j < k
          · rw [if_pos e2, if_pos (by omega)]
          · rw [if_neg e2, if_neg (by omega)]
      generalize xr (bF st k) (bF text k) = c at *
      go_wp2_with fail
      refine wp_region_below_tail 9 (by kernel_rfl) (by kernel_rfl) ?_
      simp only [List.take_succ_cons, List.take_zero, List.drop_succ_cons, List.drop_zero]
      repeat (go_big_quiet_step (fail))
      refine wpQuiet_nil ?_
      intro w3 hw'
      obtain ⟨⟨dq, osq⟩, hw''⟩ := hw'
      have hb := below_of hw''
      clear hw'' r0 I X
      have A3 := A.below hb hg
      have hB3 := Bel.call hB hb
      have hg3 : g < w3.heap.size := Nat.lt_of_lt_of_le hg hb.size
      clear A hB hb
      have c0 := A3.c k hlt
      have z0 := A3.z k hlt
      go_wp2_with fail
      exact ⟨⟨k + 1, by omega, by go_num, Bel.st hB3 (by omega) _, by rw [size_set]; exact hg3, (A3.set k hlt _).congr HS.out⟩, by simp [intOf]; omega⟩
    · have e : k = n := by omega
      subst e
      have cv := convC wr g k cap (xL k (bF st) (bF text)) (by simp [xL]) (by
        intro j q hq
        rw [Addr.add_mid, Nat.zero_add]
        have hj : j < k := by have := (List.getElem?_eq_some_iff.1 hq).1; simpa [xL] using this
        rw [A.c j hj, ← hq]
        simp [xL, hj, bc, crF])
      rw [hT] at cv
      clear A
      go_wp2_with fail
      go_ret
      exact ⟨rfl, hB⟩
end Go.Proofs.YtjaljnfijhfkcaaGreatDoor
/- Sealers: of a key and a nonce; tags; texts crossed. -/
set_option linter.all false
set_option maxRecDepth 100000
namespace Go.Proofs.YtjaljnfijhfkcaaGreatDoor
open Go.RowKit Go.Sort Lin
/-- A sealer's cells. -/
def s6 (key nonce : ByteArray) (x y u v : Int) (j : Nat) : Value := if j = 0 then .string key else if j = 1 then .string nonce else if j = 2 then .int .u64 x else if j = 3 then .int .u64 y else if j = 4 then .int .u64 u else .int .u64 v
theorem s6_at (key nonce : ByteArray) (x y u v : Int) (j : Nat) (hj : j < 6) : (#[.string key, .string nonce, .int .u64 x, .int .u64 y, .int .u64 u, .int .u64 v] : Array Value)[j]? = some (s6 key nonce x y u v j) := by
  have : j = 0 ∨ j = 1 ∨ j = 2 ∨ j = 3 ∨ j = 4 ∨ j = 5 := by omega
  rcases this with rfl | rfl | rfl | rfl | rfl | rfl <;> rfl
set_option maxHeartbeats 1000000 in
theorem tag_core (key nonce ad c : ByteArray) (x y u v p q r s : Int) (w : World)
    (C24 : ∀ W, Calls Tryz.prog 78 #[gk x y, .string ad, .string c] W fun e w' => e = .returned (gk p q) ∧ Below W.heap.size W w')
    (C35 : ∀ W, Calls Tryz.prog 79 #[gk p q, gk u v] W fun e w' => e = .returned (gk r s) ∧ Below W.heap.size W w') :
    Calls Tryz.prog 55 #[sl key nonce x y u v, .string ad, .string c] w fun e w' => e = .returned (gk r s) ∧ Below w.heap.size w w' := by
  unfold sl gk at *
  go_enter Tryz.func55, Tryz.ntmps55
  go_wp2_with fail
  have A0 : Arr _ _ 6 _ := (Arr.new w _ 107 _ rfl _ 6 (s6_at key nonce x y u v)).al' (n := 5) (.cells #[.int .u64 0, .int .u64 0] 105)
  have A1 := Arr.new (w.alloc (.cells #[.string key, .string nonce, .int .u64 x, .int .u64 y, .int .u64 u, .int .u64 v] 107)) _ 105 (w.heap.size + 1) (by simp) _ 2 (g2_at 0 0)
  have hB : Below w.heap.size w ((w.alloc (.cells #[.string key, .string nonce, .int .u64 x, .int .u64 y, .int .u64 u, .int .u64 v] 107)).alloc (.cells #[.int .u64 0, .int .u64 0] 105)) := by go_grown
  generalize ((w.alloc (.cells #[.string key, .string nonce, .int .u64 x, .int .u64 y, .int .u64 u, .int .u64 v] 107)).alloc (.cells #[.int .u64 0, .int .u64 0] 105)) = W at *
  have r0 := fun ds os => cell_regrown (A0.cv 2 (by omega) (.int .u64 x) rfl) ds os
  have r1 := fun ds os => cell_regrown (A0.cv 3 (by omega) (.int .u64 y) rfl) ds os
  have r2 := fun ds os => cell_regrown (A0.cv 4 (by omega) (.int .u64 u) rfl) ds os
  have r3 := fun ds os => cell_regrown (A0.cv 5 (by omega) (.int .u64 v) rfl) ds os
  refine wp_region_below_tail 8 (by kernel_rfl) (by kernel_rfl) ?_
  simp only [List.take_succ_cons, List.take_zero, List.drop_succ_cons, List.drop_zero]
  repeat (go_big_quiet_step (first | (go_at_call 78; exact Calls.regrown_of (C24 _)) | (go_at_call 79; exact Calls.regrown_of (C35 _))))
  refine wpQuiet_nil ?_
  intro w1 hw'
  obtain ⟨⟨dq, osq⟩, hw''⟩ := hw'
  have hb1 := below_of hw''
  clear hw'' r0 r1 r2 r3
  have B1 := A1.to' hb1
  have hB1 := Bel.call hB hb1
  clear A0 A1 hB hb1 C24 C35
  have c0 := B1.c 0 (by omega)
  have c1 := B1.c 1 (by omega)
  have z0 := B1.z 0 (by omega)
  have z1 := B1.z 1 (by omega)
  have E := B1.st2 r s
  have e0 := E.h
  have e1 := E.l
  unfold st2 at e0 e1
  go_wp2_with fail
  refine bodyPost_ret (v := gk r s) (by simp [gk, results, Tryz.results55, go_sem, e0, e1]) rfl ⟨rfl, Bel.st2 hB1 (by omega) r s⟩
theorem tag_any (key nonce ad c : ByteArray) (ha : ad.size ≤ 1000000) (hc : c.size ≤ 1000000) {h m : Nat} (hh : h < 2 ^ 128) (hm : m < 2 ^ 128) (w : World) :
    Calls Tryz.prog 55 #[sl key nonce (hi h) (lo h) (hi m) (lo m), .string ad, .string c] w fun e w' => e = .returned (gB (hF h (hBl ad c) ^^^ m)) ∧ Below w.heap.size w w' :=
  tag_core key nonce ad c _ _ _ _ _ _ _ _ w (fun W => hashed_core ad c ha hc h hh W) (fun W => gplus_any (hF_lt hh _) hm W)
theorem xL_comm (n : Nat) (f g : Nat → By) : xL n f g = xL n g f := by
  unfold xL
  refine List.map_congr_left fun j _ => ?_
  rw [xr_comm]
abbrev n1 : ByteArray := ⟨#[0, 0, 0, 1]⟩
abbrev n2 : ByteArray := ⟨#[0, 0, 0, 2]⟩
/-- A text crossed with the stream. -/
def crS (key nonce t : ByteArray) : ByteArray := xS t (smS key (bF (nonce ++ n2)) t.size)
theorem crS_size (key nonce t : ByteArray) : (crS key nonce t).size = t.size := xS_size _ _
theorem app_size (a b : ByteArray) : (a ++ b).size = a.size + b.size := ByteArray.size_append
theorem rfs_12 {key nonce n : ByteArray} (hk : Key key) (hn : nonce.size = 12) (h4 : n.size = 4) : rfs key (nonce ++ n) = 0 := by
  unfold rfs
  rw [if_pos ((isK_iff key).2 hk), if_pos (by rw [app_size]; omega)]
theorem crossed_any (key nonce t : ByteArray) (x y u v : Int) (hk : Key key) (hn : nonce.size = 12) (ht : t.size ≤ 65536) (w : World) :
    Calls Tryz.prog 54 #[sl key nonce x y u v, .string t] w fun e w' => e = .returned (.string (crS key nonce t)) ∧ Below w.heap.size w w' := by
  refine crossed_core key nonce t (smS key (bF (nonce ++ n2)) t.size) _ x y u v hn (smS_size _ _ _) (by omega) ?_ w (fun W => ?_)
  · rw [smS_size, xL_comm]
    rfl
  · have := stream_any key (nonce ++ n2) (t.size : Int) W
    have e : rfn key (nonce ++ n2) (t.size : Int) = 0 := by
      unfold rfn
      rw [if_neg (by omega)]
      exact rfs_12 hk hn rfl
    rw [e, if_pos rfl, Int.toNat_natCast] at this
    exact this
/-- A sealer put into a block. -/
def st6 (w : World) (b : Nat) (key nonce : ByteArray) (x y u v : Int) : World := (((((w.setCell ⟨b, 0, none⟩ (.string key)).setCell ⟨b, 1, none⟩ (.string nonce)).setCell ⟨b, 2, none⟩ (.int .u64 x)).setCell ⟨b, 3, none⟩ (.int .u64 y)).setCell ⟨b, 4, none⟩ (.int .u64 u)).setCell ⟨b, 5, none⟩ (.int .u64 v)
theorem Arr.st6 {w : World} {b : Nat} {f : Nat → Value} (h : Arr w b 6 f) (key nonce : ByteArray) (x y u v : Int) : Arr (st6 w b key nonce x y u v) b 6 (s6 key nonce x y u v) :=
  ((((((h.set 0 (by omega) _).set 1 (by omega) _).set 2 (by omega) _).set 3 (by omega) _).set 4 (by omega) _).set 5 (by omega) _).congr (by
    intro j hj
    have : j = 0 ∨ j = 1 ∨ j = 2 ∨ j = 3 ∨ j = 4 ∨ j = 5 := by omega
    rcases this with rfl | rfl | rfl | rfl | rfl | rfl <;> simp [s6])
theorem Bel.st6 {w W : World} (h : Below w.heap.size w W) {b : Nat} (hle : w.heap.size ≤ b) (key nonce : ByteArray) (x y u v : Int) : Below w.heap.size w (Go.Proofs.YtjaljnfijhfkcaaGreatDoor.st6 W b key nonce x y u v) := Bel.st (Bel.st (Bel.st (Bel.st (Bel.st (Bel.st h hle _) hle _) hle _) hle _) hle _) hle _
theorem Arr.six {w : World} {b : Nat} {key nonce : ByteArray} {x y u v : Int} (h : Arr w b 6 (s6 key nonce x y u v)) : w.cell? ⟨b, 0, none⟩ = some (.string key) ∧ w.cell? ⟨b, 1, none⟩ = some (.string nonce) ∧ w.cell? ⟨b, 2, none⟩ = some (.int .u64 x) ∧ w.cell? ⟨b, 3, none⟩ = some (.int .u64 y) ∧ w.cell? ⟨b, 4, none⟩ = some (.int .u64 u) ∧ w.cell? ⟨b, 5, none⟩ = some (.int .u64 v) :=
  ⟨h.c 0 (by omega), h.c 1 (by omega), h.c 2 (by omega), h.c 3 (by omega), h.c 4 (by omega), h.c 5 (by omega)⟩
set_option maxHeartbeats 400000 in
theorem sealerOf_no (key nonce s : ByteArray) (r : Int) (hr : ¬ r = 0) (hn : nonce.size ≤ 1000000) (w : World)
    (C39 : ∀ W, Calls Tryz.prog 76 #[.string key, .string (nonce ++ ⟨#[0, 0, 0, 1]⟩)] W fun e w' => e = .returned (.tuple #[.string s, .int .i64 r]) ∧ Below W.heap.size W w') :
    Calls Tryz.prog 53 #[.string key, .string nonce] w fun e w' => e = .returned (.tuple #[sl ⟨#[]⟩ ⟨#[]⟩ 0 0 0 0, .int .i64 r]) ∧ Below w.heap.size w w' := by
  have n12 : (nonce.size : Int) ≤ 1000000 := by omega
  go_enter Tryz.func53, Tryz.ntmps53
  go_wp2_with fail
  have A0 : Arr _ _ 6 _ := (Arr.new w _ 107 _ rfl _ 6 (s6_at ⟨#[]⟩ ⟨#[]⟩ 0 0 0 0))
  refine (C39 _).mono ?_
  rintro e w1 ⟨rfl, B1⟩
  have A1 : Arr _ _ 6 _ := A0.to' (n := 5) B1
  replace B1 : Below w.heap.size w w1 := Bel.call (by go_grown) B1
  clear C39 A0
  have c := A1.c
  have z := A1.z
  go_wp2_with fail
  obtain ⟨e0, e1, e2, e3, e4, e5⟩ := (A1.st6 ⟨#[]⟩ ⟨#[]⟩ 0 0 0 0).six
  unfold st6 at e0 e1 e2 e3 e4 e5
  have E1 : Below w.heap.size w (st6 w1 w.heap.size ⟨#[]⟩ ⟨#[]⟩ 0 0 0 0) := Bel.st6 B1 (Nat.le_refl _) ⟨#[]⟩ ⟨#[]⟩ 0 0 0 0
  unfold st6 at E1
  clear c z A1
  generalize (((((w1.setCell ⟨w.heap.size, 0, none⟩ (.string ⟨#[]⟩)).setCell ⟨w.heap.size, 1, none⟩ (.string ⟨#[]⟩)).setCell ⟨w.heap.size, 2, none⟩ (.int .u64 0)).setCell ⟨w.heap.size, 3, none⟩ (.int .u64 0)).setCell ⟨w.heap.size, 4, none⟩ (.int .u64 0)).setCell ⟨w.heap.size, 5, none⟩ (.int .u64 0) = V at *
  refine bodyPost_ret (v := .tuple #[sl ⟨#[]⟩ ⟨#[]⟩ 0 0 0 0, .int .i64 r]) ?_ rfl ⟨rfl, E1⟩
  simp [sl, results, Tryz.results53, go_sem, e0, e1, e2, e3, e4, e5]
set_option maxHeartbeats 1000000 in
theorem sealerOf_yes (key nonce s Z t : ByteArray) (x y u v : Int) (hn : nonce.size ≤ 1000000) (w : World)
    (C39 : ∀ W, Calls Tryz.prog 76 #[.string key, .string (nonce ++ ⟨#[0, 0, 0, 1]⟩)] W fun e w' => e = .returned (.tuple #[.string s, .int .i64 0]) ∧ Below W.heap.size W w')
    (C22 : ∀ W, Calls Tryz.prog 56 #[gk 0 0] W fun e w' => e = .returned (.string Z) ∧ Below W.heap.size W w')
    (C39' : ∀ W, Calls Tryz.prog 76 #[.string key, .string Z] W fun e w' => e = .returned (.tuple #[.string t, .int .i64 0]) ∧ Below W.heap.size W w')
    (C20h : ∀ W, Calls Tryz.prog 70 #[.string t] W fun e w' => e = .returned (gk x y) ∧ Below W.heap.size W w')
    (C20m : ∀ W, Calls Tryz.prog 70 #[.string s] W fun e w' => e = .returned (gk u v) ∧ Below W.heap.size W w') :
    Calls Tryz.prog 53 #[.string key, .string nonce] w fun e w' => e = .returned (.tuple #[sl key nonce x y u v, .int .i64 0]) ∧ Below w.heap.size w w' := by
  have n12 : (nonce.size : Int) ≤ 1000000 := by omega
  unfold gk at *
  go_enter Tryz.func53, Tryz.ntmps53
  go_wp2_with fail
  have A0 : Arr _ _ 6 _ := (Arr.new w _ 107 _ rfl _ 6 (s6_at ⟨#[]⟩ ⟨#[]⟩ 0 0 0 0))
  refine (C39 _).mono ?_
  rintro e w1 ⟨rfl, B1⟩
  have A1 : Arr _ _ 6 _ := A0.to' (n := 5) B1
  replace B1 : Below w.heap.size w w1 := Bel.call (by go_grown) B1
  clear C39 A0
  go_wp2_with fail
  refine (C22 _).mono ?_
  rintro e w2 ⟨rfl, B2⟩
  have A2 : Arr _ _ 6 _ := A1.to' (n := 5) B2
  replace B2 := Bel.call B1 B2
  clear B1 A1 C22
  go_wp2_with fail
  refine (C39' _).mono ?_
  rintro e w3 ⟨rfl, B3⟩
  have A3 : Arr _ _ 6 _ := A2.to' (n := 5) B3
  replace B3 := Bel.call B2 B3
  clear B2 A2 C39'
  go_wp2_with fail
  refine (C20h _).mono ?_
  rintro e w4 ⟨rfl, B4⟩
  have A4 : Arr _ _ 6 _ := A3.to' (n := 5) B4
  replace B4 := Bel.call B3 B4
  clear B3 A3 C20h
  go_wp2_with fail
  refine (C20m _).mono ?_
  rintro e w5 ⟨rfl, B5⟩
  have A5 : Arr _ _ 6 _ := A4.to' (n := 5) B5
  replace B5 := Bel.call B4 B5
  clear B4 A4 C20m
  have c := A5.c
  have z := A5.z
  obtain ⟨e0, e1, e2, e3, e4, e5⟩ := (A5.st6 key nonce x y u v).six
  unfold st6 at e0 e1 e2 e3 e4 e5
  go_wp2_with fail
  refine bodyPost_ret (v := .tuple #[sl key nonce x y u v, .int .i64 0]) (by simp [sl, results, Tryz.results53, go_sem, e0, e1, e2, e3, e4, e5]) rfl ⟨rfl, Bel.st6 B5 (Nat.le_refl _) key nonce x y u v⟩
/-- The two blocks of a key and a nonce. -/
def hK (key : ByteArray) : Nat := bN (encS key (tN 0))
def mK (key nonce : ByteArray) : Nat := bN (encS key (nonce ++ n1))
/-- What is wrong with a key and a nonce. -/
def rfg (key nonce : ByteArray) : Int := if isK key = true then (if nonce.size = 12 then 0 else 10) else 13
theorem rfg_is (key nonce : ByteArray) : rfs key (nonce ++ n1) = rfg key nonce := by
  unfold rfs rfg
  have : (nonce ++ n1).size = 16 ↔ nonce.size = 12 := by rw [app_size]; show nonce.size + 4 = 16 ↔ _; omega
  by_cases h : nonce.size = 12
  · rw [if_pos h, if_pos (this.2 h)]
  · rw [if_neg h, if_neg (fun e => h (this.1 e))]
theorem rfg_0 {key nonce : ByteArray} (h : rfg key nonce = 0) : Key key ∧ nonce.size = 12 := by
  unfold rfg at h
  by_cases h1 : isK key = true
  · rw [if_pos h1] at h
    by_cases h2 : nonce.size = 12
    · exact ⟨(isK_iff key).1 h1, h2⟩
    · rw [if_neg h2] at h; omega
  · rw [if_neg h1] at h; omega
def slV (key nonce : ByteArray) : Value := if rfg key nonce = 0 then sl key nonce (hi (hK key)) (lo (hK key)) (hi (mK key nonce)) (lo (mK key nonce)) else sl ⟨#[]⟩ ⟨#[]⟩ 0 0 0 0
theorem sealerOf_any (key nonce : ByteArray) (hn : nonce.size ≤ 1000000) (w : World) :
    Calls Tryz.prog 53 #[.string key, .string nonce] w fun e w' => e = .returned (.tuple #[slV key nonce, .int .i64 (rfg key nonce)]) ∧ Below w.heap.size w w' := by
  unfold slV
  have C := fun W => encrypt_any key (nonce ++ n1) W
  rw [rfg_is] at C
  by_cases h : rfg key nonce = 0
  · rw [if_pos h, h]
    rw [h, if_pos rfl] at C
    have hk := (rfg_0 h).1
    refine sealerOf_yes key nonce _ (tN 0) (encS key (tN 0)) _ _ _ _ hn w C (fun W => ?_) (fun W => ?_) (fun W => gblockOf_any _ W) (fun W => gblockOf_any _ W)
    · have := gtext_any 0 W
      have e : gB 0 = gk 0 0 := by simp [gB, hi, lo]
      rwa [e] at this
    · have := encrypt_any key (tN 0) W
      have e : rfs key (tN 0) = 0 := by
        unfold rfs
        rw [if_pos ((isK_iff key).2 hk), if_pos (tN_size 0)]
      rwa [e, if_pos rfl] at this
  · rw [if_neg h]
    exact sealerOf_no key nonce _ _ h hn w C
end Go.Proofs.YtjaljnfijhfkcaaGreatDoor
/- Hash, Seal and Open of the program. -/
set_option linter.all false
set_option maxRecDepth 100000
namespace Go.Proofs.YtjaljnfijhfkcaaGreatDoor
open Go.RowKit Go.Sort Lin
/-- What Hash tells. -/
def hsS (h a s : ByteArray) : ByteArray := if h.size = 16 then tN (hF (bN h) (hBl a s)) else ⟨#[]⟩
def hsE (h : ByteArray) : Int := if h.size = 16 then 0 else 10
set_option maxHeartbeats 1000000 in
theorem gSeal_no (key nonce ad p k0 n0 : ByteArray) (x y u v r : Int) (hr : ¬ r = 0) (w : World)
    (C27 : ∀ W, Calls Tryz.prog 53 #[.string key, .string nonce] W fun e w' => e = .returned (.tuple #[sl k0 n0 x y u v, .int .i64 r]) ∧ Below W.heap.size W w') :
    Calls Tryz.prog 34 #[.string key, .string nonce, .string ad, .string p] w fun e w' => e = .returned (.tuple #[.string ⟨#[]⟩, .int .i64 r]) ∧ Below w.heap.size w w' := by
  unfold sl at *
  go_enter Tryz.func34, Tryz.ntmps34
  go_wp2_with fail
  refine (C27 _).mono ?_
  rintro e w1 ⟨rfl, B1⟩
  clear C27
  go_wp2_with fail
  refine bodyPost_ret (v := .tuple #[.string ⟨#[]⟩, .int .i64 r]) (by simp [results, Tryz.results34, go_sem]) rfl ⟨rfl, Bel.al B1 _⟩
set_option maxHeartbeats 1000000 in
theorem gSeal_yes (key nonce ad p c g : ByteArray) (x y u v : Int) (t : Value) (hp : p.size ≤ 65536) (hc : c.size ≤ 65536) (hg : g.size = 16) (w : World)
    (C27 : ∀ W, Calls Tryz.prog 53 #[.string key, .string nonce] W fun e w' => e = .returned (.tuple #[sl key nonce x y u v, .int .i64 0]) ∧ Below W.heap.size W w')
    (C28 : ∀ W, Calls Tryz.prog 54 #[sl key nonce x y u v, .string p] W fun e w' => e = .returned (.string c) ∧ Below W.heap.size W w')
    (C29 : ∀ W, Calls Tryz.prog 55 #[sl key nonce x y u v, .string ad, .string c] W fun e w' => e = .returned t ∧ Below W.heap.size W w')
    (C22 : ∀ W, Calls Tryz.prog 56 #[t] W fun e w' => e = .returned (.string g) ∧ Below W.heap.size W w') :
    Calls Tryz.prog 34 #[.string key, .string nonce, .string ad, .string p] w fun e w' => e = .returned (.tuple #[.string (c ++ g), .int .i64 0]) ∧ Below w.heap.size w w' := by
  have p1 : ¬ (65536 : Int) < (p.size : Int) := by omega
  have c1 : (c.size : Int) ≤ 65536 := by omega
  have g1 : (g.size : Int) = 16 := by omega
  clear hp hc hg
  unfold sl at *
  go_enter Tryz.func34, Tryz.ntmps34
  go_wp2_with fail
  refine (C27 _).mono ?_
  rintro e w1 ⟨rfl, B1⟩
  clear C27
  have A0 : Arr _ _ 6 _ := (Arr.new w1 _ 107 _ rfl _ 6 (s6_at key nonce x y u v))
  go_wp2_with fail
  replace B1 := Bel.al B1 (.cells #[.string key, .string nonce, .int .u64 x, .int .u64 y, .int .u64 u, .int .u64 v] 107)
  generalize w1.alloc (.cells #[.string key, .string nonce, .int .u64 x, .int .u64 y, .int .u64 u, .int .u64 v] 107) = w2 at *
  generalize w1.heap.size = b at *
  refine (C28 _).mono ?_
  rintro e w3 ⟨rfl, B3⟩
  have A3 : Arr _ _ 6 _ := A0.to' (n := 5) B3
  replace B3 := Bel.call B1 B3
  clear B1 A0 C28
  obtain ⟨e0, e1, e2, e3, e4, e5⟩ := A3.six
  go_wp2_with fail
  refine (C29 _).mono ?_
  rintro e w4 ⟨rfl, B4⟩
  replace B4 := Bel.call B3 B4
  clear B3 A3 C29 e0 e1 e2 e3 e4 e5
  go_wp2_with fail
  refine (C22 _).mono ?_
  rintro e w5 ⟨rfl, B5⟩
  replace B5 := Bel.call B4 B5
  clear B4 C22
  go_wp2_with fail
  refine bodyPost_ret (v := .tuple #[.string (c ++ g), .int .i64 0]) (by simp [results, Tryz.results34, go_sem]) rfl ⟨rfl, B5⟩
/-- A tag, as a number. -/
def tgN (key nonce ad c : ByteArray) : Nat := hF (hK key) (hBl ad c) ^^^ mK key nonce
theorem tgN_lt (key nonce ad c : ByteArray) : tgN key nonce ad c < 2 ^ 128 := x128 (hF_lt (bN_lt _) _) (bN_lt _)
/-- What is sealed. -/
def seS (key nonce ad p : ByteArray) : ByteArray := crS key nonce p ++ tN (tgN key nonce ad (crS key nonce p))
def seR (key nonce ad p : ByteArray) : ByteArray := if rfg key nonce = 0 then seS key nonce ad p else ⟨#[]⟩
theorem gSeal_any (key nonce ad p : ByteArray) (hn : nonce.size ≤ 1000000) (ha : ad.size ≤ 1000000) (hp : p.size ≤ 65536) (w : World) :
    Calls Tryz.prog 34 #[.string key, .string nonce, .string ad, .string p] w fun e w' => e = .returned (.tuple #[.string (seR key nonce ad p), .int .i64 (rfg key nonce)]) ∧ Below w.heap.size w w' := by
  have C27 := fun W => sealerOf_any key nonce hn W
  unfold slV at C27
  unfold seR
  by_cases h : rfg key nonce = 0
  · obtain ⟨hk, h12⟩ := rfg_0 h
    rw [if_pos h, h] at C27 ⊢
    have cs := crS_size key nonce p
    exact gSeal_yes key nonce ad p (crS key nonce p) _ _ _ _ _ _ hp (by omega) (tN_size _) w C27 (fun W => crossed_any key nonce p _ _ _ _ hk h12 hp W) (fun W => tag_any key nonce ad _ ha (by omega) (bN_lt _) (bN_lt _) W) (fun W => gtext_any _ W)
  · rw [if_neg h] at C27 ⊢
    exact gSeal_no key nonce ad p _ _ _ _ _ _ _ h w C27
end Go.Proofs.YtjaljnfijhfkcaaGreatDoor
/- Open of the program. -/
set_option linter.all false
set_option maxRecDepth 100000
namespace Go.Proofs.YtjaljnfijhfkcaaGreatDoor
open Go.RowKit Go.Sort Lin
set_option maxHeartbeats 1000000 in
theorem gOpen_no (key nonce ad s k0 n0 : ByteArray) (x y u v r : Int) (hr : ¬ r = 0) (w : World)
    (C27 : ∀ W, Calls Tryz.prog 53 #[.string key, .string nonce] W fun e w' => e = .returned (.tuple #[sl k0 n0 x y u v, .int .i64 r]) ∧ Below W.heap.size W w') :
    Calls Tryz.prog 48 #[.string key, .string nonce, .string ad, .string s] w fun e w' => e = .returned (.tuple #[.string ⟨#[]⟩, .int .i64 r]) ∧ Below w.heap.size w w' := by
  unfold sl at *
  go_enter Tryz.func48, Tryz.ntmps48
  go_wp2_with fail
  refine (C27 _).mono ?_
  rintro e w1 ⟨rfl, B1⟩
  clear C27
  go_wp2_with fail
  refine bodyPost_ret (v := .tuple #[.string ⟨#[]⟩, .int .i64 r]) (by simp [results, Tryz.results48, go_sem]) rfl ⟨rfl, Bel.al B1 _⟩
set_option maxHeartbeats 1000000 in
theorem gOpen_short (key nonce ad s k0 n0 : ByteArray) (x y u v : Int) (hs : s.size < 16) (w : World)
    (C27 : ∀ W, Calls Tryz.prog 53 #[.string key, .string nonce] W fun e w' => e = .returned (.tuple #[sl k0 n0 x y u v, .int .i64 0]) ∧ Below W.heap.size W w') :
    Calls Tryz.prog 48 #[.string key, .string nonce, .string ad, .string s] w fun e w' => e = .returned (.tuple #[.string ⟨#[]⟩, .int .i64 11]) ∧ Below w.heap.size w w' := by
  have s1 : (s.size : Int) < 16 := by omega
  clear hs
  unfold sl at *
  go_enter Tryz.func48, Tryz.ntmps48
  go_wp2_with fail
  refine (C27 _).mono ?_
  rintro e w1 ⟨rfl, B1⟩
  clear C27
  go_wp2_with fail
  refine bodyPost_ret (v := .tuple #[.string ⟨#[]⟩, .int .i64 11]) (by simp [results, Tryz.results48, go_sem]) rfl ⟨rfl, Bel.al B1 _⟩
set_option maxHeartbeats 1000000 in
theorem gOpen_core (key nonce ad s c g p : ByteArray) (x y u v a b d f : Int) (ok : Bool) (n : Nat) (hn : s.size = n + 16) (hs : n ≤ 65536) (hc : s.extract 0 n = c) (hg : s.extract n s.size = g) (w : World)
    (C27 : ∀ W, Calls Tryz.prog 53 #[.string key, .string nonce] W fun e w' => e = .returned (.tuple #[sl key nonce x y u v, .int .i64 0]) ∧ Below W.heap.size W w')
    (C20 : ∀ W, Calls Tryz.prog 70 #[.string g] W fun e w' => e = .returned (gk a b) ∧ Below W.heap.size W w')
    (C29 : ∀ W, Calls Tryz.prog 55 #[sl key nonce x y u v, .string ad, .string c] W fun e w' => e = .returned (gk d f) ∧ Below W.heap.size W w')
    (C33 : ∀ W, Calls Tryz.prog 71 #[gk d f, gk a b] W fun e w' => e = .returned (.bool ok) ∧ Below W.heap.size W w')
    (C28 : ∀ W, Calls Tryz.prog 54 #[sl key nonce x y u v, .string c] W fun e w' => e = .returned (.string p) ∧ Below W.heap.size W w') :
    Calls Tryz.prog 48 #[.string key, .string nonce, .string ad, .string s] w fun e w' => e = .returned (if ok = true then .tuple #[.string p, .int .i64 0] else .tuple #[.string ⟨#[]⟩, .int .i64 17]) ∧ Below w.heap.size w w' := by
  have s0 : (s.size : Int) - 16 = (n : Int) := by omega
  have s1 : ¬ (s.size : Int) < 16 := by omega
  have s3 : ¬ (65552 : Int) < (s.size : Int) := by omega
  have s4 : (n : Int) ≤ (s.size : Int) := by omega
  have s5 : n ≤ s.size := by omega
  have s2 : (0 : Int) ≤ (n : Int) := by omega
  have hnot : ∀ (x : Bool) (w : World), (Op.unary .not (.bool x)).run Tryz.prog w = .ok (.bool (!x)) w := fun _ _ => rfl
  have HN : Hid (s.size = n + 16) := hn
  have HC : Hid (s.extract 0 n = c) := hc
  have HG : Hid (s.extract n s.size = g) := hg
  clear hs hn hc hg
  unfold sl gk at *
  go_enter Tryz.func48, Tryz.ntmps48
  go_wp2_with fail
  refine (C27 _).mono ?_
  rintro e w1 ⟨rfl, B1⟩
  clear C27
  have A0 : Arr _ _ 6 _ := (Arr.new w1 _ 107 _ rfl _ 6 (s6_at key nonce x y u v))
  go_wp2_with fail
  replace B1 := Bel.al B1 (.cells #[.string key, .string nonce, .int .u64 x, .int .u64 y, .int .u64 u, .int .u64 v] 107)
  generalize w1.alloc (.cells #[.string key, .string nonce, .int .u64 x, .int .u64 y, .int .u64 u, .int .u64 v] 107) = w2 at *
  generalize w1.heap.size = q at *
  rw [← HG.out] at C20
  rw [← HC.out] at C29 C28
  apply wp_region_alloc_tail 7 (by kernel_rfl) (by kernel_rfl) (by kernel_rfl) (.cells #[.int .u64 0, .int .u64 0] 105) _ rfl (fun _ _ => by simp [go_sem])
  · intro U hU
    simp only [List.take_succ_cons, List.take_zero]
    repeat (go_big_quiet_step (first | (go_at_call 70; exact Calls.regrown_of (C20 _))))
    exact wpQuiet_nil rfl
  intro u1 w3 hb1 hb2
  simp only [List.drop_succ_cons, List.drop_zero, Act.put, List.setIfInBounds_toArray, List.set_cons_succ, List.set_cons_zero]
  have A1 : Arr _ _ 6 _ := A0.to' (n := 5) hb1
  have A2 : Arr _ _ 6 _ := (A1.al' (n := 5) (.cells #[.int .u64 0, .int .u64 0] 105)).to' (n := 5) hb2
  have T2 := (Arr.new u1 #[.int .u64 0, .int .u64 0] 105 _ rfl _ 2 (g2_at 0 0)).to' hb2
  have B2 := Bel.call (Bel.al (Bel.call B1 hb1) (.cells #[.int .u64 0, .int .u64 0] 105)) hb2
  have lq : q < u1.heap.size := A1.lt
  have lw := (Bel.call B1 hb1).size
  clear A0 A1 B1 hb1 hb2 C20
  generalize u1.heap.size = t at *
  have c0 := T2.c 0 (by omega)
  have c1 := T2.c 1 (by omega)
  have z0 := T2.z 0 (by omega)
  have z1 := T2.z 1 (by omega)
  go_wp2_with fail
  have A3 : Arr (st2 w3 t a b) q 6 (s6 key nonce x y u v) := A2.st2o (by omega) a b
  have T3 := T2.st2 a b
  have B3 := Bel.st2 B2 lw a b
  unfold st2 at A3 T3 B3
  clear A2 T2 B2 c0 c1 z0 z1
  generalize (w3.setCell ⟨t, 0, none⟩ (.int .u64 a)).setCell ⟨t, 1, none⟩ (.int .u64 b) = w4 at *
  obtain ⟨e0, e1, e2, e3, e4, e5⟩ := A3.six
  have r0 := fun ds os => cell_regrown e0 ds os
  have r1 := fun ds os => cell_regrown e1 ds os
  have r2 := fun ds os => cell_regrown e2 ds os
  have r3 := fun ds os => cell_regrown e3 ds os
  have r4 := fun ds os => cell_regrown e4 ds os
  have r5 := fun ds os => cell_regrown e5 ds os
  have r6 := fun ds os => cell_regrown T3.h ds os
  have r7 := fun ds os => cell_regrown T3.l ds os
  clear e0 e1 e2 e3 e4 e5
  refine wp_region_quiet_below (by kernel_rfl) (by kernel_rfl) ?_
  repeat (go_big_quiet_step (first | (go_at_call 55; exact Calls.regrown_of (C29 _)) | (go_at_call 71; exact Calls.regrown_of (C33 _))))
  refine wpQuiet_nil ?_
  intro w5 hw'
  obtain ⟨⟨dq, osq⟩, hw''⟩ := hw'
  have hb := below_of hw''
  clear hw'' r0 r1 r2 r3 r4 r5 r6 r7 C29 C33
  have A5 : Arr _ _ 6 _ := A3.to' (n := 5) hb
  have B5 := Bel.call B3 hb
  clear A3 T3 B3 hb
  obtain ⟨e0, e1, e2, e3, e4, e5⟩ := A5.six
  cases ok with
  | false =>
    clear C28
    go_wp2_with fail
    refine bodyPost_ret (v := .tuple #[.string ⟨#[]⟩, .int .i64 17]) (by simp [results, Tryz.results48, go_sem]) rfl ⟨rfl, B5⟩
  | true =>
    go_wp2_with fail
    refine (C28 _).mono ?_
    rintro e w6 ⟨rfl, B6⟩
    replace B6 := Bel.call B5 B6
    clear C28 e0 e1 e2 e3 e4 e5 A5 B5
    go_wp2_with fail
    refine bodyPost_ret (v := .tuple #[.string p, .int .i64 0]) (by simp [results, Tryz.results48, go_sem]) rfl ⟨rfl, B6⟩
/-- What Open tells. -/
def cut1 (s : ByteArray) : ByteArray := s.extract 0 (s.size - 16)
def cut2 (s : ByteArray) : ByteArray := s.extract (s.size - 16) s.size
def opE (key nonce ad s : ByteArray) : Int := if rfg key nonce = 0 then (if s.size < 16 then 11 else if tgN key nonce ad (cut1 s) = bN (cut2 s) then 0 else 17) else rfg key nonce
def opS (key nonce ad s : ByteArray) : ByteArray := if opE key nonce ad s = 0 then crS key nonce (cut1 s) else ⟨#[]⟩
theorem gOpen_any (key nonce ad s : ByteArray) (hn : nonce.size ≤ 1000000) (ha : ad.size ≤ 1000000) (hs : s.size ≤ 65552) (w : World) :
    Calls Tryz.prog 48 #[.string key, .string nonce, .string ad, .string s] w fun e w' => e = .returned (.tuple #[.string (opS key nonce ad s), .int .i64 (opE key nonce ad s)]) ∧ Below w.heap.size w w' := by
  have C27 := fun W => sealerOf_any key nonce hn W
  unfold slV at C27
  unfold opS
  by_cases h : rfg key nonce = 0
  · obtain ⟨hk, h12⟩ := rfg_0 h
    rw [if_pos h, h] at C27
    by_cases h16 : s.size < 16
    · have e : opE key nonce ad s = 11 := by unfold opE; rw [if_pos h, if_pos h16]
      rw [e, if_neg (by decide)]
      exact gOpen_short key nonce ad s _ _ _ _ _ _ h16 w C27
    · have cs : (cut1 s).size = s.size - 16 := by unfold cut1; rw [ByteArray.size_extract]; omega
      have := gOpen_core key nonce ad s (cut1 s) (cut2 s) (crS key nonce (cut1 s)) _ _ _ _ _ _ _ _ _ (s.size - 16) (by omega) (by omega) rfl rfl w C27 (fun W => gblockOf_any _ W) (fun W => tag_any key nonce ad _ ha (by omega) (bN_lt _) (bN_lt _) W) (fun W => is_any (tgN_lt key nonce ad (cut1 s)) (bN_lt (cut2 s)) W) (fun W => crossed_any key nonce _ _ _ _ _ hk h12 (by omega) W)
      by_cases ht : tgN key nonce ad (cut1 s) = bN (cut2 s)
      · have e : opE key nonce ad s = 0 := by unfold opE; rw [if_pos h, if_neg h16, if_pos ht]
        rw [e, if_pos rfl]
        rw [decide_eq_true ht, if_pos rfl] at this
        exact this
      · have e : opE key nonce ad s = 17 := by unfold opE; rw [if_pos h, if_neg h16, if_neg ht]
        rw [e, if_neg (by decide)]
        rw [decide_eq_false ht, if_neg (by decide)] at this
        exact this
  · have e : opE key nonce ad s = rfg key nonce := by unfold opE; rw [if_neg h]
    rw [if_neg h] at C27
    rw [e, if_neg h]
    exact gOpen_no key nonce ad s _ _ _ _ _ _ _ h w C27
end Go.Proofs.YtjaljnfijhfkcaaGreatDoor
/- The reference: texts filled up; how many bits a text has. -/
set_option linter.all false
set_option maxRecDepth 100000
namespace Go.Proofs.YtjaljnfijhfkcaaGreatDoor
open Go.RowKit Go.Sort Lin
/-- k bytes 0. -/
def zrs (k : Nat) : ByteArray := mkS (List.replicate k 0)
theorem zrs_size (k : Nat) : (zrs k).size = k := by unfold zrs; rw [mkS_size]; simp
theorem zrs_1 : (⟨#[0]⟩ : ByteArray) = zrs 1 := by
  apply ba_ext
  rw [zrs, mkS_list]
  rfl
theorem zrs_succ (k : Nat) : zrs k ++ ⟨#[0]⟩ = zrs (k + 1) := by
  apply ba_ext
  rw [ap_list, zrs, mkS_list, zrs, mkS_list, List.replicate_succ', List.map_append]
  rfl
theorem zrs_0 (s : ByteArray) : s ++ zrs 0 = s := by
  apply ba_ext
  rw [ap_list, zrs, mkS_list]
  simp
/-- A text filled up to whole blocks. -/
def fil (s : ByteArray) : ByteArray := s ++ zrs ((16 - s.size % 16) % 16)
theorem fil_size (s : ByteArray) : (fil s).size = 16 * ((s.size + 15) / 16) := by unfold fil; rw [app_size, zrs_size]; omega
def szV : Value → Nat
  | .string t => (16 - t.size % 16) % 16
  | _ => 0
set_option maxHeartbeats 1000000 in
theorem filled_any (s : ByteArray) (hs : s.size ≤ 1000000) (w : World) : Calls Tryz.prog 68 #[.string s] w fun e w' => e = .returned (.string (fil s)) ∧ w' = w := by
  go_enter Tryz.func68, Tryz.ntmps68
  go_wp2_with fail
  go_loopw [0] (fun v wr => ∃ k : Nat, k ≤ (16 - s.size % 16) % 16 ∧ v = .string (s ++ zrs k) ∧ wr = w) (fun v _ => szV v)
  case atStart => exact ⟨0, by omega, by rw [zrs_0], rfl⟩
  case round =>
    obtain ⟨k, hk, rfl, rfl⟩ := hrel
    have sz : (s ++ zrs k).size = s.size + k := by rw [app_size, zrs_size]
    by_cases hlt : k < (16 - s.size % 16) % 16
    · have m1 : ¬ ((s ++ zrs k).size : Int) % 16 = 0 := by rw [sz]; omega
      have m2 : ((s ++ zrs k).size : Int) ≤ 2000000 := by rw [sz]; omega
      have HZ : Hid ((s ++ zrs k) ++ ⟨#[0]⟩ = s ++ zrs (k + 1)) := by
        show _ = _
        rw [ap_assoc, zrs_succ]
      have HM : Hid (szV (.string (s ++ zrs (k + 1))) < szV (.string (s ++ zrs k))) := by
        show (16 - (s ++ zrs (k + 1)).size % 16) % 16 < (16 - (s ++ zrs k).size % 16) % 16
        rw [app_size, app_size, zrs_size, zrs_size]
        omega
      clear sz
      generalize s ++ zrs k = t at *
      go_wp2_with fail
      exact ⟨⟨k + 1, by omega, by rw [HZ.out], trivial⟩, by rw [HZ.out]; exact HM.out⟩
    · have e : k = (16 - s.size % 16) % 16 := by omega
      have m1 : ((s ++ zrs k).size : Int) % 16 = 0 := by rw [sz]; omega
      have HT : Hid (s ++ zrs k = fil s) := by show _ = _; unfold fil; rw [← e]
      clear sz
      generalize s ++ zrs k = t at *
      go_wp2_with fail
      go_ret
      exact ⟨by rw [← HT.out]; rfl, rfl⟩
/-- 8 bytes that say how many bits n bytes have. -/
def btL (n : Nat) : List Int := (List.range 8).map fun i => ((8 * n / 2 ^ (56 - 8 * i) % 256 : Nat) : Int)
def btS (n : Nat) : ByteArray := mkS (btL n)
theorem btS_size (n : Nat) : (btS n).size = 8 := by unfold btS btL; rw [mkS_size]; simp
def b8 (n k j : Nat) : Value := .int .u8 (if j < k then ((8 * n / 2 ^ (56 - 8 * j) % 256 : Nat) : Int) else 0)
set_option maxHeartbeats 1000000 in
theorem bits_any (n : Nat) (hn : n ≤ 1000000) (w : World) : Calls Tryz.prog 90 #[.int .i64 (n : Int)] w fun e w' => e = .returned (.string (btS n)) ∧ Below w.heap.size w w' := by
  obtain ⟨i0, hi, hi0, hi1, hi2⟩ := info_parts Tryz.info5
  have mk := run_make (P := Tryz.prog) w 50 5 i0 (.int .u8 0) Tryz.underlying50 hi hi0 .i64 .i64 8 8 (by omega) (by omega) (by rw [hi2]; omega) (by omega)
  rw [hi1] at mk
  have A0 : Arr (w.alloc (.cells (madeCells #[.int .u8 0] 8) 5)) w.heap.size 8 (b8 n 0) := Arr.new _ _ 5 _ rfl _ _ (fun j hj => by unfold b8; rw [if_neg (by omega)]; exact made_at _ j hj)
  have B0 : Below w.heap.size w (w.alloc (.cells (madeCells #[.int .u8 0] 8) 5)) := Bel.al (Below.refl _ w) _
  have n0 : (0 : Int) ≤ (n : Int) := by omega
  have n1 : (n : Int) ≤ 1000000 := by omega
  go_enter Tryz.func90, Tryz.ntmps90
  go_wp2_with fail
  clear mk hi hi0 hi1 hi2
  go_loopw [4] (fun z wr => ∃ k : Nat, k ≤ 8 ∧ z = .int .i64 k ∧ Below w.heap.size w wr ∧ Arr wr w.heap.size 8 (b8 n k)) (fun z _ => 8 - (intOf z).toNat)
  case atStart => exact ⟨0, by omega, rfl, B0, A0⟩
  case round =>
    clear A0 B0
    obtain ⟨k, hk, rfl, hB, A⟩ := hrel
    by_cases hlt : k < 8
    · have k0 : (0 : Int) ≤ (k : Int) := by omega
      have k1 : (k : Int) < 8 := by omega
      obtain ⟨d, hd⟩ : ∃ d, 56 - 8 * k = d := ⟨_, rfl⟩
      have d1 : (56 : Int) - 8 * (k : Int) = (d : Int) := by omega
      have d2 : (0 : Int) ≤ (d : Int) := by omega
      have d3 : (d : Int) ≤ 56 := by omega
      have HV : Hid ((n : Int) * 8 / 2 ^ d % 256 = ((8 * n / 2 ^ (56 - 8 * k) % 256 : Nat) : Int)) := by
        show _ = _
        rw [hd, Nat.mul_comm 8 n]
        simp
      have c0 := A.c k hlt
      have z0 := A.z k hlt
      clear hd
      go_wp2_with fail
      refine ⟨⟨k + 1, by omega, by go_num, Bel.st hB (by omega) _, (A.set k hlt _).congr fun j hj => ?_⟩, by simp [intOf]; omega⟩
      unfold b8
      by_cases e : j = k
      · subst e; rw [if_pos rfl, if_pos (by omega), HV.out]
      · rw [if_neg e]
        by_cases e2 : j < k
        · rw [if_pos e2, if_pos (by omega)]
        · rw [if_neg e2, if_neg (by omega)]
    · have e : k = 8 := by omega
      rw [show ((k : Nat) : Int) = 8 by omega]
      subst e
      have cv := convC wr w.heap.size 8 8 (btL n) (by simp [btL]) (by
        intro j q hq
        rw [Addr.add_mid, Nat.zero_add]
        have hj : j < 8 := by have := (List.getElem?_eq_some_iff.1 hq).1; simpa [btL] using this
        rw [A.c j hj, ← hq]
        unfold b8
        rw [if_pos hj]
        simp [btL, hj])
      rw [show mkS (btL n) = btS n from rfl] at cv
      obtain ⟨T, hT⟩ : ∃ T, btS n = T := ⟨_, rfl⟩
      rw [hT] at cv
      have HT : Hid (btS n = T) := hT
      clear A hT
      go_wp2_with fail
      go_ret
      exact ⟨by rw [HT.out]; rfl, hB⟩
end Go.Proofs.YtjaljnfijhfkcaaGreatDoor
/- The reference: a block turned by a key's words. -/
set_option linter.all false
set_option maxRecDepth 100000
namespace Go.Proofs.YtjaljnfijhfkcaaGreatDoor
open Go.RowKit Go.Sort
theorem conv_tx (W : World) (gb cb : Nat) (f : Nat → By) (hA : Arr W gb 16 (bc f)) : (convert 50 9 (.slice (some ⟨gb, 0, none⟩) 16 cb)).run Tryz.prog W = .ok (.string (tx f)) W := by
  refine convC W gb 16 cb ((List.range 16).map fun j => ((f j).val : Int)) (by simp) ?_
  intro j u hu
  have hj : j < 16 := by have := (List.getElem?_eq_some_iff.1 hu).1; simpa using this
  rw [Addr.add_mid, Nat.zero_add, hA.c j hj, ← hu]
  simp [hj, bc]
theorem c4_at (j : Nat) (a b c d : By) (hj : j < 4) : (#[.int .u8 (a.val : Int), .int .u8 (b.val : Int), .int .u8 (c.val : Int), .int .u8 (d.val : Int)] : Array Value)[j]? = some (bc (bQ (a, b, c, d)) j) := by
  have : j = 0 ∨ j = 1 ∨ j = 2 ∨ j = 3 := by omega
  rcases this with rfl | rfl | rfl | rfl <;> rfl
set_option maxHeartbeats 8000000 in
theorem rencrypt_core (key block : ByteArray) (hb16 : block.size = 16) (M X gw cw : Nat) (KB : Nat → By) (E : Nat → Nat → By) (hX : 1 < X) (hX15 : X ≤ 15) (HMX : Hid (M = 16 * X)) (hcw : M ≤ cw)
    (hE1 : ∀ j, j < 16 → E 1 j = plF (bF block) KB j)
    (hEm : ∀ x, 1 ≤ x → x + 1 < X → ∀ j, j < 16 → E (x + 1) j = plF (mxF 2 3 1 1 (tnF (beF sb (E x)))) (fun j => KB (16 * x + j)) j)
    (hEl : ∀ x, x + 1 = X → ∀ j, j < 16 → E (x + 1) j = plF (tnF (beF sb (E x))) (fun j => KB (16 * x + j)) j)
    (w : World) (hgw : gw < w.heap.size) (hW : ∀ j, j < M → w.cell? ⟨gw, j, none⟩ = some (bc KB j)) :
    Calls Tryz.prog 66 #[.slice (some ⟨gw, 0, none⟩) M cw, .string block] w fun e w' => e = .returned (.string (tx (E X))) ∧ Below w.heap.size w w' := by
  obtain ⟨cap0, W0, hcv, hR0, hB0⟩ := conv_rw w block (by omega)
  rw [hb16] at hcv hR0
  have A0 := hR0.arr
  have m16 : (16 : Int) ≤ (M : Int) := by have := HMX.out; omega
  have mcw : (M : Int) ≤ (cw : Int) := by omega
  have hW0 : ∀ j, j < 16 → W0.cell? ⟨gw, 0 + j, none⟩ = some (bc KB j) := fun j hj => by rw [Nat.zero_add]; exact (hB0.cell (p := ⟨gw, j, none⟩) hgw).trans (hW j (by have := HMX.out; omega))
  have C34 := rplus_any (bF block) KB w.heap.size gw 0 cap0 cw (by omega) W0 A0 hW0
  have HEm : Hid _ := hEm
  have HEl : Hid _ := hEl
  have HW : Hid _ := hW
  clear hR0 hW0 hEm hEl hW
  go_enter Tryz.func66, Tryz.ntmps66
  go_wp2_with fail
  refine C34.mono ?_
  rintro e w1 ⟨rfl, hG1, A1⟩
  have B1 := gb_below hB0 hG1 (Nat.le_refl _)
  have A1' : Arr w1 w.heap.size 16 (bc (E 1)) := A1.congr (fun j hj => by unfold bc; rw [hE1 j hj])
  clear C34 hG1 A1 A0 hB0 hcv hE1
  go_wp2_with fail
  go_loopw [5, 6] (fun v i wr => ∃ x y gb cb : Nat, 1 ≤ x ∧ x ≤ X ∧ y = 16 * x ∧ v = .slice (some ⟨gb, 0, none⟩) 16 cb ∧ i = .int .i64 (y : Int) ∧ Arr wr gb 16 (bc (E x)) ∧ Below w.heap.size w wr ∧ w.heap.size ≤ gb) (fun _ i _ => M - (intOf i).toNat)
  case atStart => exact ⟨1, 16, w.heap.size, cap0, by omega, by omega, by omega, rfl, rfl, A1', B1, Nat.le_refl _⟩
  case round =>
    clear A1' B1
    obtain ⟨x, y, gb, cb, hx1, hx2, hy, rfl, rfl, A, hB, hgb⟩ := hrel
    have y0 : (0 : Int) ≤ (y : Int) := by omega
    by_cases hlt : x < X
    · have yM : (y : Int) < (M : Int) := by have := HMX.out; omega
      have HY : Hid (y = 16 * x) := hy
      have yb : (y : Int) ≤ 224 := by omega
      have Mb : (M : Int) ≤ 240 := by have := HMX.out; omega
      clear hy
      go_wp2_with fail
      go_loopw [7] (fun i wr => ∃ m : Nat, m ≤ 16 ∧ i = .int .i64 m ∧ Arr wr gb 16 (bm (beF sb (E x)) (E x) m) ∧ Below w.heap.size w wr) (fun i _ => 16 - (intOf i).toNat)
      case atStart => exact ⟨0, by omega, rfl, A.congr (fun j _ => by unfold bm bc; rw [if_neg (by omega)]), hB⟩
      case round =>
        clear A hB
        obtain ⟨m, hm, rfl, A, hB⟩ := hrel
        have m0 : (0 : Int) ≤ (m : Int) := by omega
        by_cases hlm : m < 16
        · have m1 : (m : Int) < 16 := by omega
          have c := A.cv m hlm (.int .u8 ((E x m).val : Int)) (by unfold bm; rw [if_neg (by omega)])
          have z := A.z m hlm
          have C11 := rsub_any (E x m) wr
          have HN : Hid (sb (E x m) = beF sb (E x) m) := rfl
          go_wp2_with fail
          refine C11.mono ?_
          rintro e w2 ⟨rfl, rfl⟩
          clear C11
          go_wp2_with fail
          refine ⟨⟨m + 1, by omega, by go_num, (A.set m hlm _).congr ?_, Bel.st hB hgb _⟩, by simp [intOf]; omega⟩
          intro j hj
          unfold bm
          by_cases e : j = m
          · subst e; rw [if_pos rfl, if_pos (by omega), HN.out]
          · rw [if_neg e]
            by_cases e2 : j < m
            · rw [if_pos e2, if_pos (by omega)]
            · rw [if_neg e2, if_neg (by omega)]
        · have e : m = 16 := by omega
          rw [show ((m : Nat) : Int) = 16 by omega]
          subst e
          have A2 : Arr wr gb 16 (bc (beF sb (E x))) := A.congr fun j hj => by unfold bm bc; rw [if_pos hj]
          have C36 := rturned_any (beF sb (E x)) gb cb wr A2
          have s1 := hB.size
          clear A A2 hm hlm m0
          go_wp2_with fail
          refine C36.mono ?_
          rintro e w2 ⟨rfl, hb2, A2⟩
          have B2 := Bel.call hB hb2
          have HG2 : w.heap.size ≤ wr.heap.size := s1
          clear C36 hB hb2 s1 hgb
          generalize wr.heap.size = gc at A2 HG2 ⊢
          have nce : ¬ cw = 16 * x := by have := HMX.out; omega
          have nyc : ¬ cw = y := by have := HMX.out; have := HY.out; omega
          have l1 : (y : Int) + 16 ≤ (cw : Int) := by have := HMX.out; have := HY.out; omega
          by_cases hlx : x + 1 < X
          · have l2 : (y : Int) + 16 < (M : Int) := by have := HMX.out; have := HY.out; omega
            have T3 : Arr (w2.alloc (.cells #[.int .u8 2, .int .u8 3, .int .u8 1, .int .u8 1] 5)) w2.heap.size 4 (bc (bQ (2, 3, 1, 1))) := Arr.new _ _ 5 _ rfl _ 4 (fun j hj => c4_at j 2 3 1 1 hj)
            have A3 := A2.al' (.cells #[.int .u8 2, .int .u8 3, .int .u8 1, .int .u8 1] 5)
            have B3 := Bel.al B2 (.cells #[.int .u8 2, .int .u8 3, .int .u8 1, .int .u8 1] 5)
            have C35 := rmixed_any (tnF (beF sb (E x))) (bQ (2, 3, 1, 1)) gc 16 w2.heap.size 4 _ A3 T3
            have s3 := B3.size
            go_wp2_with fail
            refine C35.mono ?_
            rintro e w4 ⟨rfl, hb4, A4⟩
            have B4 := Bel.call B3 hb4
            have HG4 := s3
            clear C35 A2 A3 B2 B3 T3 hb4 s3
            generalize (w2.alloc (.cells #[.int .u8 2, .int .u8 3, .int .u8 1, .int .u8 1] 5)).heap.size = gd at A4 HG4 ⊢
            have hWk : ∀ j, j < 16 → w4.cell? ⟨gw, y + j, none⟩ = some (bc (fun j => KB (16 * x + j)) j) := fun j hj => by
              rw [HY.out]
              exact (B4.cell (p := ⟨gw, 16 * x + j, none⟩) hgw).trans (HW.out (16 * x + j) (by have := HMX.out; omega))
            have C34 := rplus_core (mxF 2 3 1 1 (tnF (beF sb (E x)))) (fun j => KB (16 * x + j)) (E (x + 1)) (HEm.out x hx1 hlx) gd gw y 16 (cw - y) (by omega) w4 A4 hWk
            clear hWk
            go_wp2_with fail
            refine C34.mono ?_
            rintro e v9 ⟨rfl, hG9, A9⟩
            have B9 := gb_below B4 hG9 HG4
            clear C34 hG9
            go_wp2_with fail
            refine ⟨⟨x + 1, y + 16, gd, 16, by omega, by omega, by have := HY.out; omega, rfl, by go_num, A9, B9, HG4⟩, by simp [intOf]; omega⟩
          · have l2 : ¬ (y : Int) + 16 < (M : Int) := by have := HMX.out; have := HY.out; omega
            have hWk : ∀ j, j < 16 → w2.cell? ⟨gw, y + j, none⟩ = some (bc (fun j => KB (16 * x + j)) j) := fun j hj => by
              rw [HY.out]
              exact (B2.cell (p := ⟨gw, 16 * x + j, none⟩) hgw).trans (HW.out (16 * x + j) (by have := HMX.out; omega))
            have C34 := rplus_core (tnF (beF sb (E x))) (fun j => KB (16 * x + j)) (E (x + 1)) (HEl.out x (by omega)) gc gw y 16 (cw - y) (by omega) w2 A2 hWk
            clear hWk
            go_wp2_with fail
            refine C34.mono ?_
            rintro e v9 ⟨rfl, hG9, A9⟩
            have B9 := gb_below B2 hG9 HG2
            clear C34 hG9
            go_wp2_with fail
            refine ⟨⟨x + 1, y + 16, gc, 16, by omega, by omega, by have := HY.out; omega, rfl, by go_num, A9, B9, HG2⟩, by simp [intOf]; omega⟩
    · have e : x = X := by omega
      have yM : ¬ (y : Int) < (M : Int) := by have := HMX.out; omega
      clear hy
      subst e
      have cv := conv_tx wr gb cb (E x) A
      obtain ⟨T, hT⟩ : ∃ T, tx (E x) = T := ⟨_, rfl⟩
      rw [hT] at cv
      have HT : Hid (tx (E x) = T) := hT
      clear hT
      clear A
      go_wp2_with fail
      go_ret
      exact ⟨by rw [HT.out]; rfl, hB⟩
end Go.Proofs.YtjaljnfijhfkcaaGreatDoor
/- FIPS 197's example, reckoned. -/
set_option linter.all false
set_option maxRecDepth 100000
namespace Go.Proofs.YtjaljnfijhfkcaaGreatDoor
theorem tnF_congr {f g : Nat → By} (e : ∀ j, j < 16 → f j = g j) (j : Nat) (hj : j < 16) : tnF f j = tnF g j := by unfold tnF; rw [e _ (by omega)]
theorem beF_congr {f g : Nat → By} (t : By → By) (e : ∀ j, j < 16 → f j = g j) (j : Nat) (hj : j < 16) : beF t f j = beF t g j := by unfold beF; rw [e _ hj]
theorem mxF_congr {f g : Nat → By} (m0 m1 m2 m3 : By) (e : ∀ j, j < 16 → f j = g j) (j : Nat) (hj : j < 16) : mxF m0 m1 m2 m3 f j = mxF m0 m1 m2 m3 g j := by unfold mxF; rw [e _ (by omega), e _ (by omega), e _ (by omega), e _ (by omega)]
theorem rdE_congr (key : ByteArray) (i : Nat) {f g : Nat → By} (e : ∀ j, j < 16 → f j = g j) (j : Nat) (hj : j < 16) : rdE key i f j = rdE key i g j := by
  unfold rdE
  split
  · exact e j hj
  · split
    · exact tnF_congr (beF_congr sb e) j hj
    · exact mxF_congr _ _ _ _ (tnF_congr (beF_congr sb e)) j hj
def fipK : ByteArray := ⟨#[0, 1, 2, 3, 4, 5, 6, 7, 8, 9, 10, 11, 12, 13, 14, 15]⟩
def fipB : ByteArray := ⟨#[0, 17, 34, 51, 68, 85, 102, 119, 136, 153, 170, 187, 204, 221, 238, 255]⟩
def fipC : ByteArray := ⟨#[105, 196, 224, 216, 106, 123, 4, 48, 216, 205, 183, 128, 112, 180, 197, 90]⟩
def fipW : List Q4 := [(0, 1, 2, 3), (4, 5, 6, 7), (8, 9, 10, 11), (12, 13, 14, 15), (214, 170, 116, 253), (210, 175, 114, 250), (218, 166, 120, 241), (214, 171, 118, 254), (182, 146, 207, 11), (100, 61, 189, 241), (190, 155, 197, 0), (104, 48, 179, 254), (182, 255, 116, 78), (210, 194, 201, 191), (108, 89, 12, 191), (4, 105, 191, 65), (71, 247, 247, 188), (149, 53, 62, 3), (249, 108, 50, 188), (253, 5, 141, 253), (60, 170, 163, 232), (169, 159, 157, 235), (80, 243, 175, 87), (173, 246, 34, 170), (94, 57, 15, 125), (247, 166, 146, 150), (167, 85, 61, 193), (10, 163, 31, 107), (20, 249, 112, 26), (227, 95, 226, 140), (68, 10, 223, 77), (78, 169, 192, 38), (71, 67, 135, 53), (164, 28, 101, 185), (224, 22, 186, 244), (174, 191, 122, 210), (84, 153, 50, 209), (240, 133, 87, 104), (16, 147, 237, 156), (190, 44, 151, 78), (19, 17, 29, 127), (227, 148, 74, 23), (243, 7, 167, 139), (77, 43, 48, 197)]
def fipS : List (List By) := [[0, 17, 34, 51, 68, 85, 102, 119, 136, 153, 170, 187, 204, 221, 238, 255], [0, 16, 32, 48, 64, 80, 96, 112, 128, 144, 160, 176, 192, 208, 224, 240], [137, 216, 16, 232, 133, 90, 206, 104, 45, 24, 67, 216, 203, 18, 143, 228], [73, 21, 89, 143, 85, 229, 215, 160, 218, 202, 148, 250, 31, 10, 99, 247], [250, 99, 106, 40, 37, 179, 57, 201, 64, 102, 138, 49, 87, 36, 77, 23], [36, 114, 64, 35, 105, 102, 179, 250, 110, 210, 117, 50, 136, 66, 91, 108], [200, 22, 119, 188, 155, 122, 201, 59, 37, 2, 121, 146, 176, 38, 25, 150], [198, 47, 225, 9, 247, 94, 237, 195, 204, 121, 57, 93, 132, 249, 207, 93], [209, 135, 108, 15, 121, 196, 48, 10, 180, 85, 148, 173, 214, 111, 244, 31], [253, 227, 186, 210, 5, 229, 208, 215, 53, 71, 150, 78, 241, 254, 55, 241], [189, 110, 124, 61, 242, 181, 119, 158, 11, 97, 33, 110, 139, 16, 182, 137], [105, 196, 224, 216, 106, 123, 4, 48, 216, 205, 183, 128, 112, 180, 197, 90]]
theorem fipK_nk : nkO fipK = 4 := by decide
theorem fipW_chk : ∀ n : Fin 44, (if n.val < 4 then (bF fipK (4 * n.val), bF fipK (4 * n.val + 1), bF fipK (4 * n.val + 2), bF fipK (4 * n.val + 3)) else xQ (fipW.getD (n.val - 4) (0, 0, 0, 0)) (tQ 4 n.val (fipW.getD (n.val - 1) (0, 0, 0, 0)))) = fipW.getD n.val (0, 0, 0, 0) := by decide +kernel
theorem fipW_ok (n : Nat) (hn : n < 44) : kQ (bF fipK) 4 n = fipW.getD n (0, 0, 0, 0) := by
  induction n using Nat.strongRecOn with
  | _ n ih =>
    have c := fipW_chk ⟨n, hn⟩
    by_cases h : n < 4
    · rw [if_pos h] at c
      rw [kQ_lo _ _ _ h]
      exact c
    · rw [if_neg h] at c
      rw [kQ_hi _ _ _ (by omega) (by omega), ih (n - 4) (by omega) (by omega), ih (n - 1) (by omega) (by omega)]
      exact c
theorem fipS_chk : ∀ i : Fin 11, ∀ j : Fin 16, plF (rdE fipK i.val (fun q => (fipS.getD i.val []).getD q 0)) (fun q => bQ (fipW.getD ((16 * i.val + q) / 4) (0, 0, 0, 0)) ((16 * i.val + q) % 4)) j.val = (fipS.getD (i.val + 1) []).getD j.val 0 := by decide +kernel
theorem fipS_0 : ∀ j : Fin 16, bF fipB j.val = (fipS.getD 0 []).getD j.val 0 := by decide +kernel
theorem fipS_ok (i : Nat) (hi : i ≤ 11) : ∀ j, j < 16 → eS fipK (bF fipB) i j = (fipS.getD i []).getD j 0 := by
  induction i with
  | zero => intro j hj; exact fipS_0 ⟨j, hj⟩
  | succ i ih =>
    intro j hj
    rw [← fipS_chk ⟨i, by omega⟩ ⟨j, hj⟩]
    show xr (rdE fipK i (eS fipK (bF fipB) i) j) (rk fipK i j) = xr _ _
    rw [rdE_congr fipK i (ih (by omega)) j hj]
    congr 1
    unfold rk kB
    rw [fipK_nk, fipW_ok _ (by omega)]
theorem ex_enc : encS fipK fipB = fipC := by
  unfold encS encF
  rw [fipK_nk, tx_congr (fipS_ok 11 (by omega))]
  apply ba_ext
  rw [tx, mkS_list]
  decide
theorem ex_rfs : rfs fipK fipB = 0 := by decide
end Go.Proofs.YtjaljnfijhfkcaaGreatDoor
