/- Texts joined: C4, C5, C6. -/
import Derived.Test.YtldaccdhjjngdaaGreatDoorJ13
import Derived.Test.YtldaccdhjjngdaaGreatDoorJ14
import Derived.Test.YtldaccdhjjngdaaGreatDoorJ15
import Derived.Test.YtldaccdhjjngdaaGreatDoorJ10
/- A cipher made; its round keys. -/
set_option linter.all false
set_option maxRecDepth 100000
namespace Go.Proofs.YtldaccdhjjngdaaGreatDoor
open Go.RowKit Go.Sort Lin
/-- A key has 16 or 32 bytes. -/
def Key (key : ByteArray) : Prop := key.size = 16 ∨ key.size = 32
def nkO (key : ByteArray) : Nat := key.size / 4
/-- The words of a key. -/
def kX (key : ByteArray) (j : Nat) : Int := if j < 4 * (nkO key + 7) then wQ (kQ (bF key) (nkO key) j) else 0
def Fresh (w : World) (b : Nat) (key : ByteArray) : Prop := Cph w b key 0 0 zT (fun _ => 0) 0
def Made (w : World) (b : Nat) (key : ByteArray) : Prop := Cph w b key 1 0 sT (kX key) ((nkO key + 6 : Nat) : Int)
def Either (w : World) (b : Nat) (key : ByteArray) : Prop := Fresh w b key ∨ Made w b key
theorem sched_any (key : ByteArray) (hk : Key key) (b : Nat) (d st : Int) (w : World) (hC0 : Cph w b key d st zT (fun _ => 0) 0) :
    Calls Tryz.prog 130 #[.pointer (some ⟨b, 0, none⟩)] w fun e w' => e = .returned (.tuple #[]) ∧ w.grownBy w' (some b) ∧ Cph w' b key d st sT (kX key) ((nkO key + 6 : Nat) : Int) := by
  rcases hk with h | h
  · have := sched_4 key h b d st (fun _ => 0) 0 (fun _ => rfl) w hC0
    unfold kX nkO
    rw [h]
    exact this
  · have := sched_8 key h b d st (fun _ => 0) 0 (fun _ => rfl) w hC0
    unfold kX nkO
    rw [h]
    exact this
theorem Made.to {w w' : World} {b : Nat} {key : ByteArray} (h : Made w b key) (hb : Below w.heap.size w w') : Made w' b key := Cph.to h hb
theorem Made.lt {w : World} {b : Nat} {key : ByteArray} (h : Made w b key) : b < w.heap.size := Cph.lt h
theorem Either.lt {w : World} {b : Nat} {key : ByteArray} (h : Either w b key) : b < w.heap.size := by rcases h with h | h <;> exact Cph.lt h
theorem Either.to {w w' : World} {b : Nat} {key : ByteArray} (h : Either w b key) (hb : Below w.heap.size w w') : Either w' b key := by
  rcases h with h | h
  · exact .inl (Cph.to h hb)
  · exact .inr (Cph.to h hb)
theorem drew_cph {w : World} {b : Nat} {key d st T X last} (h : Cph w b key d st T X last) : Cph w.drew b key d st T X last := h
set_option maxHeartbeats 1000000 in
theorem made_core (b : Nat) (w : World) (x0 : Value) (Q : World → Prop) (h0 : w.cell? ⟨b, 0, none⟩ = some x0)
    (C : Calls Tryz.prog 129 #[.pointer (some ⟨b, 1, none⟩), .func (.func 130) #[.pointer (some ⟨b, 0, none⟩)] #[]] w fun e w' => e = .returned (.tuple #[]) ∧ Q w') :
    Calls Tryz.prog 123 #[.pointer (some ⟨b, 0, none⟩)] w fun e w' => e = .returned (.pointer (some ⟨b, 0, none⟩)) ∧ Q w' := by
  have hmf : ∀ (fn : Fn) (first cap : Array Value) (w : World), (Instr.makeFunc fn first cap).run Tryz.prog w = .ok (.func fn first cap) w := fun _ _ _ _ => rfl
  go_enter Tryz.func123, Tryz.ntmps123
  go_wp2_with (go_at_call 129; refine C.mono ?_; rintro e w1 ⟨rfl, hq⟩)
  go_ret
  exact ⟨rfl, hq⟩
theorem made_first (key : ByteArray) (hk : Key key) (b : Nat) (w : World) (h : Fresh w b key) :
    Calls Tryz.prog 123 #[.pointer (some ⟨b, 0, none⟩)] w fun e w' => e = .returned (.pointer (some ⟨b, 0, none⟩)) ∧ w.grownBy w' (some b) ∧ Made w' b key := by
  refine made_core b w (.string key) _ (Arr.c h 0 (by omega)) ?_
  refine (do_first b w (fun w2 => (w.setCell ⟨b, 2, none⟩ (.int .i32 1)).grownBy w2 (some b) ∧ Cph w2 b key 0 1 sT (kX key) ((nkO key + 6 : Nat) : Int)) (Arr.c h 1 (by omega)) (Arr.c h 2 (by omega)) (Arr.z h 2 (by omega)) (sched_any key hk b 0 1 _ (Cph.setS h 1)) ?_).mono ?_
  · rintro w2 ⟨_, hC⟩
    exact ⟨Arr.c hC 1 (by omega), Arr.z hC 1 (by omega), Arr.c hC 2 (by omega), Arr.z hC 2 (by omega)⟩
  · rintro e w' ⟨he, w2, ⟨hG, hC⟩, rfl⟩
    refine ⟨he, ?_, Cph.setS (Cph.setD (drew_cph hC) 1) 0⟩
    exact gb_trans (gb_trans (gb_drew (gb_trans (gb_set w b 2 _) hG)) (gb_set _ _ _ _)) (gb_set _ _ _ _)
theorem made_again (key : ByteArray) (b : Nat) (w : World) (h : Made w b key) :
    Calls Tryz.prog 123 #[.pointer (some ⟨b, 0, none⟩)] w fun e w' => e = .returned (.pointer (some ⟨b, 0, none⟩)) ∧ w' = w :=
  made_core b w (.string key) (fun w' => w' = w) (Arr.c h 0 (by omega)) (do_done _ 1 (by decide) _ w (Arr.c h 1 (by omega)))
theorem made_any (key : ByteArray) (hk : Key key) (b : Nat) (w : World) (h : Either w b key) :
    Calls Tryz.prog 123 #[.pointer (some ⟨b, 0, none⟩)] w fun e w' => e = .returned (.pointer (some ⟨b, 0, none⟩)) ∧ w.grownBy w' (some b) ∧ Made w' b key := by
  rcases h with h | h
  · exact made_first key hk b w h
  · exact (made_again key b w h).mono fun e w' ⟨h1, h2⟩ => ⟨h1, by rw [h2]; exact gb_refl _ _, by rw [h2]; exact h⟩
/-- A round key's bytes. -/
def rk (key : ByteArray) (i j : Nat) : By := kB (bF key) (nkO key) (16 * i + j)
theorem kX_rk (key : ByteArray) (i c : Nat) (hi : i < nkO key + 7) (hc : c < 4) : kX key (4 * i + c) = col (rk key i) c := by
  have := col_kB (bF key) (nkO key) i c
  unfold kX
  rw [if_pos (by omega), ← this]
  rfl
theorem slc61 (b i : Nat) (hi : i < 15) (W : World) : (Instr.sliceAt 162 (.pointer (some ⟨b, 260, none⟩)) (some (.int .i64 (4 * (i : Int)))) (some (.int .i64 (4 * ((i : Int) + 1)))) none).run Tryz.prog W = .ok (.slice (some ⟨b, 260 + 4 * i, none⟩) 4 (60 - 4 * i)) W := by
  have e60 : Tryz.prog.arrayLen 162 = 60 := by kernel_rfl
  have h := run_sliceAt_array_lh (P := Tryz.prog) W 162 ⟨b, 260, none⟩ (by kernel_rfl) .i64 .i64 (4 * (i : Int)) (4 * ((i : Int) + 1)) (by omega) (by omega) (by rw [e60]; omega)
  rw [h, e60]
  have hs : (Go.sizeOf (Tryz.prog.elem 162)).run Tryz.prog W = .ok 1 W := by kernel_rfl
  rw [hs, Result.andThen_ok, slicedAt, show (4 * (i : Int)).toNat = 4 * i by omega, show (4 * ((i : Int) + 1)).toNat = 4 * i + 4 by omega, if_neg (by omega), Nat.mul_one, Addr.add_mid, show 4 * i + 4 - 4 * i = 4 by omega]
set_option maxHeartbeats 2000000 in
theorem roundKey_core (b i : Nat) (g : Nat → Int) (w : World) (hi : i < 15) (x0 : Value) (h0 : w.cell? ⟨b, 0, none⟩ = some x0) (hb : b < w.heap.size)
    (hc : ∀ c, c < 4 → w.cell? ⟨b, 260 + (4 * i + c), none⟩ = some (.int .u32 (g c))) :
    Calls Tryz.prog 124 #[.pointer (some ⟨b, 0, none⟩), .int .i64 (i : Int)] w fun e w' => e = .returned (bv g) ∧ Below w.heap.size w w' := by
  have i0 : (0 : Int) ≤ (i : Int) := by omega
  have i15 : (i : Int) < 15 := by omega
  have S := slc61 b i hi
  have A : ∀ W, (Instr.arrayAt 166 (.slice (some ⟨b, 260 + 4 * i, none⟩) 4 (60 - 4 * i))).run Tryz.prog W = .ok (.pointer (some ⟨b, 260 + 4 * i, none⟩)) W := fun W => by
    simp only [Instr.arrayAt, Sem.run_bind, run_underlying Tryz.underlying166, Result.andThen_ok]
    rfl
  have N := Arr.new w #[.int .u32 0, .int .u32 0, .int .u32 0, .int .u32 0] 166 _ rfl _ 4 z4_at
  have hB : Below w.heap.size w (w.alloc (.cells #[.int .u32 0, .int .u32 0, .int .u32 0, .int .u32 0] 166)) := (Below.refl _ _).alloc (Nat.le_refl _) _
  have HC : Hid (∀ c, c < 4 → (w.alloc (.cells #[.int .u32 0, .int .u32 0, .int .u32 0, .int .u32 0] 166)).cell? ⟨b, 260 + 4 * i + c, none⟩ = some (.int .u32 (g c))) := fun c h => by
    rw [World.cell?_alloc_past _ _ _ hb, Nat.add_assoc]
    exact hc c h
  clear hc
  go_enter Tryz.func124, Tryz.ntmps124
  go_upto_region 1 with (fail)
  generalize (w.alloc (.cells #[.int .u32 0, .int .u32 0, .int .u32 0, .int .u32 0] 166)) = w1 at *
  have c0 := HC.out 0 (by omega)
  have c1 := HC.out 1 (by omega)
  have c2 := HC.out 2 (by omega)
  have c3 := HC.out 3 (by omega)
  rw [Nat.add_zero] at c0
  have d := N.c
  have z := N.z
  have E := (N.st4 g).c
  clear HC
  go_wp2_with fail
  refine bodyPost_ret (v := bv g) ?_ rfl ⟨rfl, Bel.st4 hB (by omega) g⟩
  simp only [Go.Proofs.YtldaccdhjjngdaaGreatDoor.st4] at E
  simp [bv, results, Tryz.results124, go_sem, E]
theorem roundKey_any (key : ByteArray) (hk : Key key) (b i : Nat) (hi : i < nkO key + 7) (w : World) (hM : Made w b key) :
    Calls Tryz.prog 124 #[.pointer (some ⟨b, 0, none⟩), .int .i64 (i : Int)] w fun e w' => e = .returned (bv (col (rk key i))) ∧ Below w.heap.size w w' := by
  have h15 : nkO key + 7 ≤ 15 := by unfold nkO; rcases hk with h | h <;> omega
  refine roundKey_core b i _ w (by omega) (.string key) (Arr.c hM 0 (by omega)) hM.lt (fun c hc => ?_)
  rw [Arr.c hM (260 + (4 * i + c)) (by omega), cph_X _ (by omega), kX_rk key i c hi hc]
end Go.Proofs.YtldaccdhjjngdaaGreatDoor
/- The round keys handed out, forward and backward. -/
set_option linter.all false
set_option maxRecDepth 100000
namespace Go.Proofs.YtldaccdhjjngdaaGreatDoor
open Go.RowKit Go.Shelf Go.Sort
attribute [local go_sem] Oper.semAt_some
/-- What a round keeps: the cipher's block, and the box with its address. -/
def KM (b bx : Nat) (W W' : World) : Prop := (∀ f, Arr W b 321 f → Arr W' b 321 f) ∧ (∀ f, Arr W bx 1 f → Arr W' bx 1 f)
theorem KM.t {b bx : Nat} {A B C : World} (h1 : KM b bx A B) (h2 : KM b bx B C) : KM b bx A C := ⟨fun f h => h2.1 f (h1.1 f h), fun f h => h2.2 f (h1.2 f h)⟩
theorem KM.b {b bx : Nat} (W : World) (l : Nat) (o o' : Obj) (hl : W.heap[l]? = some o) (hc : o.isCells = false) : KM b bx W (W.putObj l o') :=
  ⟨fun f h => arr_kept h (grownBy_putObj' W l o') (fun r e => by cases e; exact ⟨o, hl, hc⟩), fun f h => arr_kept h (grownBy_putObj' W l o') (fun r e => by cases e; exact ⟨o, hl, hc⟩)⟩
theorem KM.g {b bx : Nat} (A B : World) (h : A.grownBy B none) : KM b bx A B := ⟨fun f hA => arr_kept hA h (fun r e => by cases e), fun f hA => arr_kept hA h (fun r e => by cases e)⟩
theorem KM.below {b bx : Nat} {W W' : World} (hb : Below W.heap.size W W') : KM b bx W W' := ⟨fun f h => h.below hb h.lt, fun f h => h.below hb h.lt⟩
def encK (key : ByteArray) (x : Nat) : Array Value := #[.int .i64 (x : Int), bv (col (rk key x))]
def MkF (key : ByteArray) (b : Nat) (pre : List Nat) (x : Nat) (W : World) : Prop := Made W b key ∧ x = pre.length ∧ x < nkO key + 7 ∧ pre = List.range x
def MkB (key : ByteArray) (b : Nat) (pre : List Nat) (x : Nat) (W : World) : Prop := Made W b key ∧ x + pre.length = nkO key + 6 ∧ x < nkO key + 7 ∧ pre = (List.range pre.length).map (nkO key + 6 - ·)
def AllF (key : ByteArray) (ys : List Nat) : Prop := ys = List.range (nkO key + 7)
def AllB (key : ByteArray) (ys : List Nat) : Prop := ys = (List.range (nkO key + 7)).map (nkO key + 6 - ·)
set_option maxHeartbeats 4000000 in
theorem forward1_in (key : ByteArray) (hk : Key key) (n l b bx : Nat) (hn : 1 ≤ n) (hne : bx ≠ b) (Jv Jx : List Nat → World → Prop) {B : Nat} (hJ : AbidesFrom B Jv) (hC : ∀ s A A', Jv s A → A.grownBy A' (some b) → Jv s A')
    (hY : ∀ pre (x : Nat) W, Jv pre W → MkF key b pre x W → YieldAt Fence.wide (n - 1) Tryz.prog l (encK key x) W fun e W' => (e = .returned (.bool true) ∧ Jv (pre ++ [x]) W' ∧ KM b bx W W') ∨ (e = .returned (.bool false) ∧ Jx (pre ++ [x]) W'))
    (W : World) (hE : Either W b key) (hA : Arr W bx 1 (fun _ => .pointer (some ⟨b, 0, none⟩))) (h0 : Jv [] W) :
    CallsIn Fence.wide n Tryz.prog 122 #[.func (.yield l) #[] #[], .pointer (some ⟨bx, 0, none⟩)] W fun e W' => (∃ v, e = .returned v) ∧
      ((∃ ys : List Nat, AllF key ys ∧ Jv ys W' ∧ Made W' b key) ∨ (∃ pre : List Nat, True ∧ Jx pre W')) := by
  have hd : 1 ≤ n := hn
  have nk1 : nkO key ≤ 8 := by unfold nkO; rcases hk with h | h <;> omega
  refine callsIn_of_wp Tryz.func122 rfl trivial ?_ rfl
  simp only [Tryz.ntmps122, List.size_toArray, List.length_cons, List.length_nil, Nat.reduceAdd, Nat.reduceSub, Array.replicate_succ, Array.replicate_zero, List.push_toArray, List.append_toArray, List.nil_append, List.cons_append]
  obtain ⟨m, hm⟩ : ∃ m, nkO key + 6 = m := ⟨_, rfl⟩
  have HM : Hid (nkO key + 6 = m) := hm
  have m14 : (m : Int) ≤ 14 := by omega
  clear hm
  have cb := hA.c 0 (by omega)
  have mk := made_any key hk b W hE
  gi_wp2_with (refine ⟨trivial, ?_⟩; gi_at_call 123; refine (callsIn_wide.2 mk).mono ?_; rintro e w1 ⟨rfl, hG, hM⟩; have cl := Arr.c hM 320 (by omega); rw [cph_l, HM.out] at cl; have c00 := Arr.c hM 0 (by omega))
  have A1 := gb_arr hG hne hA
  have J1 := hC _ _ _ h0 hG
  clear cb mk hE hA h0 cl c00 hG
  have hnot : ∀ (x : Bool) (w : World), (Op.unary .not (.bool x)).run Tryz.prog w = .ok (.bool (!x)) w := fun _ _ => rfl
  gi_loopw [10] (fun i wr => ∃ k : Nat, k ≤ m + 1 ∧ i = .int .i64 k ∧ Jv (List.range k) wr ∧ Made wr b key ∧ Arr wr bx 1 (fun _ => .pointer (some ⟨b, 0, none⟩))) (fun i _ => m + 1 - (intOf i).toNat)
  case atStart => exact ⟨0, by omega, rfl, J1, hM, A1⟩
  case round =>
    clear J1 hM A1
    obtain ⟨k, hkm, rfl, hJs, hM, hA⟩ := hrel
    have k0 : (0 : Int) ≤ (k : Int) := by omega
    by_cases hlt : k < m + 1
    · have k1 : (k : Int) < (m : Int) + 1 := by omega
      have cb := hA.c 0 (by omega)
      have rkc := roundKey_any key hk b k (by have := HM.out; omega) wr hM
      gi_wp2_with (refine ⟨trivial, ?_⟩; gi_at_call 124; refine (callsIn_wide.2 rkc).mono ?_; rintro e w2 ⟨rfl, hb⟩; have hJ2 := hJ _ wr w2 none hJs (gby hb) (fun r e => by cases e); have hM2 := hM.to hb; have hA2 := hA.to' hb; obtain ⟨fn, tmps, assign, body, hy, hR⟩ := hY (List.range k) k w2 hJ2 ⟨hM2, by simp, by have := HM.out; omega, rfl⟩; unfold encK at hy; clear hJs hM hA hb cb rkc)
      refine hR.mono ?_
      rintro e W3 (⟨rfl, hJ3, hK⟩ | ⟨rfl, hJx3⟩)
      · gi_wp2
        refine ⟨⟨k + 1, by omega, by go_num, by rw [List.range_succ]; exact hJ3, hK.1 _ hM2, hK.2 _ hA2⟩, by first | (simp [intOf]; done) | (simp [intOf]; omega)⟩
      · gi_wp2
        refine bodyPost_ret (results_none rfl _ _ _) rfl ?_
        exact ⟨⟨_, rfl⟩, .inr ⟨_, trivial, hJx3⟩⟩
    · have k1 : ¬ (k : Int) < (m : Int) + 1 := by omega
      have e : k = m + 1 := by omega
      gi_wp2
      go_end0
      refine ⟨⟨_, rfl⟩, .inl ⟨_, ?_, hJs, hM⟩⟩
      unfold AllF
      rw [e]
      congr 1
      have := HM.out
      omega
theorem forward_seq (key : ByteArray) (hk : Key key) (n b bx : Nat) (hn : 1 ≤ n) (hne : bx ≠ b) (w0 : World) (hE : Either w0 b key) (hA : Arr w0 bx 1 (fun _ => .pointer (some ⟨b, 0, none⟩))) :
    SeqM Fence.wide n Tryz.prog 122 #[.pointer (some ⟨bx, 0, none⟩)] (encK key) (KM b bx) (MkF key b) (fun _ => True) (AllF key) (fun _ => True) (some b) (fun W => Made W b key) w0 :=
  fun l Jv Jx W hW hJ _ hC _ hY h0 => forward1_in key hk n l b bx hn hne Jv Jx hJ hC hY W (hE.to hW) (hA.to' hW) h0
theorem forward_any (p : Addr) (w : World) : Calls Tryz.prog 106 #[.pointer (some p)] w fun e w' => e = .returned (.func (.func 122) #[] #[.pointer (some ⟨w.heap.size, 0, none⟩)]) ∧ w' = w.alloc (.cells #[.pointer (some p)] 177) := by
  go_enter Tryz.func106, Tryz.ntmps106
  go_wp2
  go_ret
  exact ⟨rfl, rfl⟩
end Go.Proofs.YtldaccdhjjngdaaGreatDoor
/- Blocks turned by a key: the program's. -/
set_option linter.all false
set_option maxRecDepth 100000
namespace Go.Proofs.YtldaccdhjjngdaaGreatDoor
open Go.RowKit Go.Shelf Go.Sort
attribute [local go_sem] Oper.semAt_some
/-- A round, ahead of its key. -/
def rdE (key : ByteArray) (i : Nat) (f : Nat → By) : Nat → By := if i = 0 then f else if i = nkO key + 6 then tnF (beF sb f) else mxF 2 3 1 1 (tnF (beF sb f))
/-- What i round keys make of a block. -/
def eS (key : ByteArray) (f : Nat → By) : Nat → Nat → By
  | 0 => f
  | i + 1 => plF (rdE key i (eS key f i)) (rk key i)
def encF (key : ByteArray) (f : Nat → By) : Nat → By := eS key f (nkO key + 7)
theorem gb_new {w W W' : World} {r : Option Nat} {q : Nat} (h : w.grownBy W r) (hq : w.heap.size ≤ q) (k : W.grownBy W' (some q)) : w.grownBy W' r :=
  ⟨k.os.trans h.os, k.tape.trans h.tape, k.output.trans h.output, Nat.le_trans h.size k.size, fun i hi hr => (k.block i (Nat.lt_of_lt_of_le hi h.size) (by intro e; cases e; omega)).trans (h.block i hi hr)⟩
theorem gb_st4 (W : World) (q : Nat) (g : Nat → Int) : W.grownBy (st4 W q g) (some q) := gb_trans (gb_trans (gb_trans (gb_set _ _ _ _) (gb_set _ _ _ _)) (gb_set _ _ _ _)) (gb_set _ _ _ _)
theorem KM.st4 {b bx q : Nat} (h1 : q ≠ b) (h2 : q ≠ bx) (W : World) (g : Nat → Int) : KM b bx W (st4 W q g) := ⟨fun f h => h.st4o h1 g, fun f h => h.st4o h2 g⟩
theorem Made.kept {W W' : World} {b : Nat} {key : ByteArray} {row : Option Nat} (h : Made W b key) (hg : W.grownBy W' row) (hr : ∀ r, row = some r → ∃ o : Obj, W.heap[r]? = some o ∧ o.isCells = false) : Made W' b key := arr_kept h hg hr
/-- What the rounds keep. -/
structure IE (w : World) (b q0 q1 q2 : Nat) (y : Nat → Int) (W : World) : Prop where
  g : w.grownBy W (some b)
  p : Arr W q0 1 (fun _ => .pointer (some ⟨b, 0, none⟩))
  s : Arr W q1 4 (fun j => .int .u32 (y j))
  z : Arr W q2 4 (fun _ => .int .u32 0)
def IEx (w : World) (b q0 q1 q2 : Nat) (Y : Nat → Nat → Int) (pre : List Nat) (W : World) : Prop := IE w b q0 q1 q2 (Y pre.length) W
def INo (pre : List Nat) (W : World) : Prop := False
theorem IE.own {w A A' : World} {b q0 q1 q2 : Nat} {y : Nat → Int} {row : Option Nat} (h : IE w b q0 q1 q2 y A) (hg : A.grownBy A' row) (hr : ∀ r, row = some r → w.heap.size ≤ r ∧ ∃ o : Obj, A.heap[r]? = some o ∧ o.isCells = false) : IE w b q0 q1 q2 y A' := by
  obtain ⟨h1, h2, h3, h4⟩ := h
  have hr' : ∀ r, row = some r → ∃ o : Obj, A.heap[r]? = some o ∧ o.isCells = false := fun r e => (hr r e).2
  refine ⟨?_, arr_kept h2 hg hr', arr_kept h3 hg hr', arr_kept h4 hg hr'⟩
  cases row with
  | none => exact ⟨hg.os.trans h1.os, hg.tape.trans h1.tape, hg.output.trans h1.output, Nat.le_trans h1.size hg.size, fun i hi hr => (hg.block i (Nat.lt_of_lt_of_le hi h1.size) (by intro e; cases e)).trans (h1.block i hi hr)⟩
  | some r => exact gb_new h1 (hr r rfl).1 hg
theorem IEx_own (w : World) (b q0 q1 q2 : Nat) (Y : Nat → Nat → Int) (B : Nat) (hB : w.heap.size ≤ B) : OwnFrom B (IEx w b q0 q1 q2 Y) :=
  fun s A A' row h hg hr => IE.own h hg (fun r e => ⟨Nat.le_trans hB (hr r e).1, (hr r e).2⟩)
theorem INo_own (B : Nat) : OwnFrom B INo := fun s A A' row h _ _ => h
theorem IEx_gb (w : World) (b q0 q1 q2 : Nat) (h0 : q0 ≠ b) (h1 : q1 ≠ b) (h2 : q2 ≠ b) (Y : Nat → Nat → Int) (s : List Nat) (A B : World) (h : IEx w b q0 q1 q2 Y s A) (hg : A.grownBy B (some b)) : IEx w b q0 q1 q2 Y s B :=
  ⟨gb_trans h.g hg, gb_arr hg h0 h.p, gb_arr hg h1 h.s, gb_arr hg h2 h.z⟩
theorem MkF_own (key : ByteArray) (b B : Nat) : OwnFrom B (fun (s : List Nat × Nat) W => MkF key b s.1 s.2 W) := fun s A A' row h hg hr => ⟨h.1.kept hg (fun r e => (hr r e).2), h.2⟩
theorem MkB_own (key : ByteArray) (b B : Nat) : OwnFrom B (fun (s : List Nat × Nat) W => MkB key b s.1 s.2 W) := fun s A A' row h hg hr => ⟨h.1.kept hg (fun r e => (hr r e).2), h.2⟩
theorem Made_own (key : ByteArray) (b B : Nat) : OwnFrom B (fun (_ : Unit) W => Made W b key) := fun s A A' row h hg hr => h.kept hg (fun r e => (hr r e).2)
theorem one_at (v : Value) (j : Nat) (hj : j < 1) : (#[v] : Array Value)[j]? = some v := by
  obtain rfl : j = 0 := by omega
  rfl
set_option maxHeartbeats 8000000 in
theorem encrypted_core (key : ByteArray) (hk : Key key) (b : Nat) (Y R : Nat → Nat → Int) (w : World) (hE : Either w b key)
    (C46 : ∀ i, i < nkO key + 7 → ∀ W, Calls Tryz.prog 110 #[bv (R i), bv (col (rk key i))] W fun e w' => e = .returned (bv (Y (i + 1))) ∧ Below W.heap.size W w')
    (h0 : R 0 = Y 0) (V1 V2 V3 : Nat → Nat → Int)
    (C43 : ∀ i W, TabAt W b 4 sb → Calls Tryz.prog 107 #[bv (Y i), .pointer (some ⟨b, 4, none⟩)] W fun e w' => e = .returned (bv (V1 i)) ∧ Below W.heap.size W w')
    (C44 : ∀ i W, Calls Tryz.prog 108 #[bv (V1 i)] W fun e w' => e = .returned (bv (V2 i)) ∧ Below W.heap.size W w')
    (C45 : ∀ i W, Calls Tryz.prog 109 #[bv (V2 i)] W fun e w' => e = .returned (bv (V3 i)) ∧ Below W.heap.size W w')
    (hL : R (nkO key + 6) = V2 (nkO key + 6)) (hM : ∀ i, i ≠ 0 → i ≠ nkO key + 6 → R i = V3 i) :
    Calls Tryz.prog 95 #[.pointer (some ⟨b, 0, none⟩), bv (Y 0)] w fun e w' => e = .returned (bv (Y (nkO key + 7))) ∧ w.grownBy w' (some b) ∧ Made w' b key := by
  refine (callsIn_wide (n := 8)).1 ?_
  refine callsIn_of_wp_marks Tryz.func95 rfl trivial ?_ rfl
  unfold bv at *
  simp only [Tryz.ntmps95, List.size_toArray, List.length_cons, List.length_nil, Nat.reduceAdd, Nat.reduceSub, Array.replicate_succ, Array.replicate_zero, List.push_toArray, List.append_toArray, List.nil_append, List.cons_append]
  gi_wp2_with (refine ⟨trivial, ?_⟩; gi_at_call 106; refine (callsIn_wide.2 (forward_any _ _)).mono ?_; rintro e w3 ⟨rfl, rfl⟩)
  have P0 : Arr ((((w.alloc (.cells #[.pointer (some ⟨b, 0, none⟩)] 177)).alloc (.cells #[.int .u32 (Y 0 0), .int .u32 (Y 0 1), .int .u32 (Y 0 2), .int .u32 (Y 0 3)] 166)).alloc (.cells #[.int .u32 0, .int .u32 0, .int .u32 0, .int .u32 0] 166)).alloc (.cells #[.pointer (some ⟨b, 0, none⟩)] 177)) w.heap.size 1 (fun _ => .pointer (some ⟨b, 0, none⟩)) := (((Arr.new w _ 177 _ rfl _ 1 (fun j hj => one_at _ j hj)).al' _).al' _).al' _
  have S1 : Arr ((((w.alloc (.cells #[.pointer (some ⟨b, 0, none⟩)] 177)).alloc (.cells #[.int .u32 (Y 0 0), .int .u32 (Y 0 1), .int .u32 (Y 0 2), .int .u32 (Y 0 3)] 166)).alloc (.cells #[.int .u32 0, .int .u32 0, .int .u32 0, .int .u32 0] 166)).alloc (.cells #[.pointer (some ⟨b, 0, none⟩)] 177)) (w.heap.size + 1) 4 (fun j => .int .u32 (Y 0 j)) := ((Arr.new _ _ 166 _ (by simp) _ 4 (h4_at (Y 0))).al' _).al' _
  have Z2 : Arr ((((w.alloc (.cells #[.pointer (some ⟨b, 0, none⟩)] 177)).alloc (.cells #[.int .u32 (Y 0 0), .int .u32 (Y 0 1), .int .u32 (Y 0 2), .int .u32 (Y 0 3)] 166)).alloc (.cells #[.int .u32 0, .int .u32 0, .int .u32 0, .int .u32 0] 166)).alloc (.cells #[.pointer (some ⟨b, 0, none⟩)] 177)) (w.heap.size + 1 + 1) 4 (fun _ => .int .u32 0) := (Arr.new _ _ 166 _ (by simp) _ 4 z4_at).al' _
  have X3 : Arr ((((w.alloc (.cells #[.pointer (some ⟨b, 0, none⟩)] 177)).alloc (.cells #[.int .u32 (Y 0 0), .int .u32 (Y 0 1), .int .u32 (Y 0 2), .int .u32 (Y 0 3)] 166)).alloc (.cells #[.int .u32 0, .int .u32 0, .int .u32 0, .int .u32 0] 166)).alloc (.cells #[.pointer (some ⟨b, 0, none⟩)] 177)) (w.heap.size + 1 + 1 + 1) 1 (fun _ => .pointer (some ⟨b, 0, none⟩)) := Arr.new _ _ 177 _ (by simp) _ 1 (fun j hj => one_at _ j hj)
  have hB : Below w.heap.size w ((((w.alloc (.cells #[.pointer (some ⟨b, 0, none⟩)] 177)).alloc (.cells #[.int .u32 (Y 0 0), .int .u32 (Y 0 1), .int .u32 (Y 0 2), .int .u32 (Y 0 3)] 166)).alloc (.cells #[.int .u32 0, .int .u32 0, .int .u32 0, .int .u32 0] 166)).alloc (.cells #[.pointer (some ⟨b, 0, none⟩)] 177)) := by go_grown
  generalize ((((w.alloc (.cells #[.pointer (some ⟨b, 0, none⟩)] 177)).alloc (.cells #[.int .u32 (Y 0 0), .int .u32 (Y 0 1), .int .u32 (Y 0 2), .int .u32 (Y 0 3)] 166)).alloc (.cells #[.int .u32 0, .int .u32 0, .int .u32 0, .int .u32 0] 166)).alloc (.cells #[.pointer (some ⟨b, 0, none⟩)] 177)) = w4 at P0 S1 Z2 X3 hB ⊢
  have bl := hE.lt
  have hE4 := hE.to hB
  obtain ⟨q1, e1⟩ : ∃ q, w.heap.size + 1 = q := ⟨_, rfl⟩
  rw [e1] at S1 Z2 X3 ⊢
  obtain ⟨q2, e2⟩ : ∃ q, q1 + 1 = q := ⟨_, rfl⟩
  rw [e2] at Z2 X3 ⊢
  obtain ⟨q3, e3⟩ : ∃ q, q2 + 1 = q := ⟨_, rfl⟩
  rw [e3] at X3 ⊢
  obtain ⟨q0, e0⟩ : ∃ q, w.heap.size = q := ⟨_, rfl⟩
  have HQ : Hid (q0 = w.heap.size ∧ q1 = q0 + 1 ∧ q2 = q0 + 2 ∧ q3 = q0 + 3 ∧ b < q0) := ⟨by omega, by omega, by omega, by omega, by omega⟩
  rw [e0] at P0 e1 ⊢
  clear e0 e1 e2 e3 bl hE
  have n0 : q0 ≠ b := by have := HQ.out; omega
  have n1 : q1 ≠ b := by have := HQ.out; omega
  have n2 : q2 ≠ b := by have := HQ.out; omega
  have n3 : q3 ≠ b := by have := HQ.out; omega
  have n13 : q1 ≠ q3 := by have := HQ.out; omega
  have sz : w.heap.size ≤ w4.heap.size := hB.size
  refine wpIn_rangeFunc_made rfl (by omega) (gf := 122) (lb := #[.pointer (some ⟨q3, 0, none⟩)]) rfl trivial (enters_of Tryz.func122 (by kernel_rfl) rfl)
    (forward_seq key hk _ b q3 (by omega) n3 w4 hE4 X3) KM.t (fun W l o o' _ h1 h2 => KM.b W l o o' h1 h2) KM.g (Below.refl _ _) (fun _ => rfl)
    (fun k e => by cases e; exact hE4.lt) (MkF_own key b _) (Made_own key b _)
    (IEx w b q0 q1 q2 Y) INo (IEx_own w b q0 q1 q2 Y _ sz) (INo_own _) (IEx_gb w b q0 q1 q2 n0 n1 n2 Y) (fun _ _ _ => trivial)
    ⟨gb_of hB, P0, S1, Z2⟩ ?round ?done ?stop
  case round =>
    clear P0 S1 Z2 X3 hB hE4
    rintro l pre x W hI hMk
    obtain ⟨hM, hx, hx7, hpre⟩ := hMk
    have HX : Hid (x = pre.length) := hx
    clear hx hpre
    unfold encK bv
    gi_wp2
    refine ⟨World.grownBy_alloc W _ none, ?_⟩
    intro W2 hU hI2 hM2
    have K1 : Arr (W.alloc (.cells #[.int .u32 (col (rk key x) 0), .int .u32 (col (rk key x) 1), .int .u32 (col (rk key x) 2), .int .u32 (col (rk key x) 3)] 166)) W.heap.size 4 (fun j => .int .u32 (col (rk key x) j)) := Arr.new _ _ 166 _ rfl _ 4 (h4_at _)
    have IK := hU.arr K1
    have t1 : q1 < W.heap.size := hI.s.lt
    have MM := hM2.1
    clear hU K1 hM2 hM
    generalize W.heap.size = t at *
    have nt : q1 ≠ t := by omega
    unfold IEx at hI2
    rw [← HX.out] at hI2
    obtain ⟨jG, JP, JS, JZ⟩ := hI2
    have n10 : q1 ≠ q0 := by have := HQ.out; omega
    have n12 : q1 ≠ q2 := by have := HQ.out; omega
    have hd : 1 ≤ 8 - 1 - 1 := by omega
    have c46 := C46 x hx7
    have x0 : (0 : Int) ≤ (x : Int) := by omega
    have JK := IK
    have KO : KeepsOthers W2 W2 := KeepsOthers.refl _
    have KK : KM b q3 W2 W2 := ⟨fun f h => h, fun f h => h⟩
    clear IK hI C46
    by_cases hx0 : x = 0
    · have hxi : (x : Int) = 0 := by omega
      have eR : R x = Y x := by rw [hx0]; exact h0
      rw [eR] at c46
      clear h0 hL hM C43 C44 C45 MM eR hx0
      generalize col (rk key x) = kx at *
      have d0 := JS.c
      have dk := JK.c
      have zs := JS.z
      gi_wp2_with (refine ⟨trivial, ?_⟩; gi_at_call 110; refine (CallsIn.inRound l (callsIn_wide.2 (c46 _))).mono ?_; rintro e w9 ⟨rfl, hb9⟩; have JS9 := JS.to' hb9; have d9 := JS9.c; have z9 := JS9.z)
      have JP9 := JP.to' hb9
      have JZ9 := JZ.to' hb9
      have jG9 := gb_trans jG (gb_of hb9)
      refine ⟨KO.trans ((ko_below hb9).trans (ko_st4 _ _ _)), KK.t ((KM.below hb9).t (KM.st4 n1 n13 _ _)), ?_⟩
      show IE w b q0 q1 q2 (Y (pre ++ [x]).length) _
      rw [List.length_append, List.length_singleton, ← HX.out]
      exact ⟨gb_new jG9 (by have := HQ.out; omega) (gb_st4 _ _ _), JP9.st4o n10 _, JS9.st4 _, JZ9.st4o n12 _⟩
    · have hxi : ¬ (x : Int) = 0 := by omega
      have cl := Arr.c MM 320 (by omega)
      rw [cph_l] at cl
      have c00 := Arr.c MM 0 (by omega)
      have cp := JP.c 0 (by omega)
      have tR := fun ds os => (Cph.tab MM).to (below_regrown W2 ds os)
      have r0 := fun ds os => cell_regrown (JS.c 0 (by omega)) ds os
      have r1 := fun ds os => cell_regrown (JS.c 1 (by omega)) ds os
      have r2 := fun ds os => cell_regrown (JS.c 2 (by omega)) ds os
      have r3 := fun ds os => cell_regrown (JS.c 3 (by omega)) ds os
      have rp := fun ds os => cell_regrown cp ds os
      have rq := fun ds os => cell_regrown c00 ds os
      have c43 := C43 x
      have c44 := C44 x
      have c45 := C45 x
      clear C43 C44 C45
      by_cases hxl : x = nkO key + 6
      · have hxj : (x : Int) = ((nkO key + 6 : Nat) : Int) := by omega
        rw [← hxj] at cl
        rw [← hxl] at hL
        rw [hL] at c46
        have HXL : Hid (x = nkO key + 6) := hxl
        clear hL hM h0 hxj hxl
        generalize col (rk key x) = kx at *
        gi_wp2
        refine wpIn_region_below_tail 6 (by kernel_rfl) (by kernel_rfl) ?_
        simp only [List.take_succ_cons, List.take_zero, List.drop_succ_cons, List.drop_zero]
        repeat (go_big_quiet_step (first | (go_at_call 107; exact Calls.regrown_of (c43 _ (tR _ _))) | (go_at_call 108; exact Calls.regrown_of (c44 _))))
        refine wpQuiet_nil ?_
        intro w5 hw'
        obtain ⟨⟨dq, osq⟩, hw''⟩ := hw'
        have hb := below_of hw''
        clear hw'' r0 r1 r2 r3 rp rq tR c43 c44 c45 cl c00 cp MM
        have KO5 := ko_below hb
        have KK5 : KM b q3 W2 w5 := KM.below hb
        have jG5 := gb_trans jG (gb_of hb)
        have JP5 := JP.to' hb
        have JS5 := JS.to' hb
        have JZ5 := JZ.to' hb
        have JK5 := JK.to' hb
        clear jG JP JS JZ JK KO KK hb
        have ds := JS5.c
        have zz := JS5.z
        have JS := JS5.st4 (V2 x)
        have KO := KO5.trans (ko_st4 w5 q1 (V2 x))
        have KK := KK5.t (KM.st4 n1 n13 w5 (V2 x))
        have jG := gb_new jG5 (by have := HQ.out; omega) (gb_st4 w5 q1 (V2 x))
        have JP := JP5.st4o n10 (V2 x)
        have JZ := JZ5.st4o n12 (V2 x)
        have JK := JK5.st4o nt (V2 x)
        have dk := JK5.c
        gi_wp2_with (refine ⟨trivial, ?_⟩; gi_at_call 110; refine (CallsIn.inRound l (callsIn_wide.2 (c46 _))).mono ?_; rintro e w9 ⟨rfl, hb9⟩; have JS9 := JS.to' hb9; have d9 := JS9.c; have z9 := JS9.z)
        have JP9 := JP.to' hb9
        have JZ9 := JZ.to' hb9
        have jG9 := gb_trans jG (gb_of hb9)
        refine ⟨KO.trans ((ko_below hb9).trans (ko_st4 _ _ _)), KK.t ((KM.below hb9).t (KM.st4 n1 n13 _ _)), ?_⟩
        show IE w b q0 q1 q2 (Y (pre ++ [x]).length) _
        rw [List.length_append, List.length_singleton, ← HX.out]
        exact ⟨gb_new jG9 (by have := HQ.out; omega) (gb_st4 _ _ _), JP9.st4o n10 _, JS9.st4 _, JZ9.st4o n12 _⟩
      · have hxj : ¬ (x : Int) = ((nkO key + 6 : Nat) : Int) := by omega
        obtain ⟨m, hm⟩ : ∃ m : Int, ((nkO key + 6 : Nat) : Int) = m := ⟨_, rfl⟩
        rw [hm] at cl hxj
        rw [hM x hx0 hxl] at c46
        clear hL hM h0 hm hxl
        generalize col (rk key x) = kx at *
        gi_wp2
        refine wpIn_region_below_tail 7 (by kernel_rfl) (by kernel_rfl) ?_
        simp only [List.take_succ_cons, List.take_zero, List.drop_succ_cons, List.drop_zero]
        repeat (go_big_quiet_step (first | (go_at_call 107; exact Calls.regrown_of (c43 _ (tR _ _))) | (go_at_call 108; exact Calls.regrown_of (c44 _)) | (go_at_call 109; exact Calls.regrown_of (c45 _))))
        refine wpQuiet_nil ?_
        intro w5 hw'
        obtain ⟨⟨dq, osq⟩, hw''⟩ := hw'
        have hb := below_of hw''
        clear hw'' r0 r1 r2 r3 rp rq tR c43 c44 c45 cl c00 cp MM
        have KO5 := ko_below hb
        have KK5 : KM b q3 W2 w5 := KM.below hb
        have jG5 := gb_trans jG (gb_of hb)
        have JP5 := JP.to' hb
        have JS5 := JS.to' hb
        have JZ5 := JZ.to' hb
        have JK5 := JK.to' hb
        clear jG JP JS JZ JK KO KK hb
        have ds := JS5.c
        have zz := JS5.z
        have JS := JS5.st4 (V3 x)
        have KO := KO5.trans (ko_st4 w5 q1 (V3 x))
        have KK := KK5.t (KM.st4 n1 n13 w5 (V3 x))
        have jG := gb_new jG5 (by have := HQ.out; omega) (gb_st4 w5 q1 (V3 x))
        have JP := JP5.st4o n10 (V3 x)
        have JZ := JZ5.st4o n12 (V3 x)
        have JK := JK5.st4o nt (V3 x)
        have dk := JK5.c
        gi_wp2_with (refine ⟨trivial, ?_⟩; gi_at_call 110; refine (CallsIn.inRound l (callsIn_wide.2 (c46 _))).mono ?_; rintro e w9 ⟨rfl, hb9⟩; have JS9 := JS.to' hb9; have d9 := JS9.c; have z9 := JS9.z)
        have JP9 := JP.to' hb9
        have JZ9 := JZ.to' hb9
        have jG9 := gb_trans jG (gb_of hb9)
        refine ⟨KO.trans ((ko_below hb9).trans (ko_st4 _ _ _)), KK.t ((KM.below hb9).t (KM.st4 n1 n13 _ _)), ?_⟩
        show IE w b q0 q1 q2 (Y (pre ++ [x]).length) _
        rw [List.length_append, List.length_singleton, ← HX.out]
        exact ⟨gb_new jG9 (by have := HQ.out; omega) (gb_st4 _ _ _), JP9.st4o n10 _, JS9.st4 _, JZ9.st4o n12 _⟩
  case done =>
    clear P0 S1 Z2 X3 hB hE4 C43 C44 C45 C46 h0 hL hM
    rintro De ys W hD hS hI hMd hK
    have hlen : ys.length = nkO key + 7 := by rw [show ys = _ from hS]; simp
    unfold IEx at hI
    rw [hlen] at hI
    clear hS hlen
    obtain ⟨jG, JP, JS, JZ⟩ := hI
    obtain ⟨g, hg⟩ : ∃ g, Y (nkO key + 7) = g := ⟨_, rfl⟩
    rw [hg] at JS
    have HG : Hid (Y (nkO key + 7) = g) := hg
    clear hg
    have cs := JS.c
    have cz := JZ.c
    have zz := JZ.z
    gi_wp2
    have hK' := (ko_st4 W q2 g).same De _ hK rfl
    have H6 := arr_kept (JZ.st4 g) (grownBy_putObj' _ De (.deferred none)) (fun r e => by cases e; exact ⟨_, hK', rfl⟩)
    have M6 := Made.kept (Arr.st4o hMd n2 g) (grownBy_putObj' (st4 W q2 g) De (.deferred none)) (fun r e => by cases e; exact ⟨_, hK', rfl⟩)
    refine ⟨by simp, .inl ⟨_, _, rfl, run_takeDeferred hK', ?_⟩⟩
    have ch := H6.c
    simp only [st4] at ch
    refine ⟨bv g, by simp [bv, results, Tryz.results95, go_sem, ch], by rw [HG.out]; rfl, ?_, M6⟩
    exact gb_new (gb_new jG (by have := HQ.out; omega) (gb_st4 W q2 g)) (Nat.le_trans sz hD) (grownBy_putObj' _ De _)
  case stop =>
    rintro D pre W _ _ h
    exact h.elim
theorem encrypted_any (key : ByteArray) (hk : Key key) (b : Nat) (f : Nat → By) (w : World) (hE : Either w b key) :
    Calls Tryz.prog 95 #[.pointer (some ⟨b, 0, none⟩), bv (col f)] w fun e w' => e = .returned (bv (col (encF key f))) ∧ w.grownBy w' (some b) ∧ Made w' b key := by
  refine encrypted_core key hk b (fun i => col (eS key f i)) (fun i => col (rdE key i (eS key f i))) w hE (fun i _ W => plus_any _ _ W) rfl (fun i => col (beF sb (eS key f i))) (fun i => col (tnF (beF sb (eS key f i)))) (fun i => col (mxF 2 3 1 1 (tnF (beF sb (eS key f i)))))
    (fun i W hW => become_any sb b 4 _ W hW) (fun i W => turned_any _ W) (fun i W => mixed_any _ W) ?_ ?_
  · show col (rdE key (nkO key + 6) _) = _
    unfold rdE
    rw [if_neg (by omega), if_pos rfl]
  · intro i h0 h1
    show col (rdE key i _) = _
    unfold rdE
    rw [if_neg h0, if_neg h1]
end Go.Proofs.YtldaccdhjjngdaaGreatDoor
