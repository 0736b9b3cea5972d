/- Texts joined: C4, C5. -/
import Derived.Test.YtogkijjmimaccaaJ11
import Derived.Test.YtogkijjmimaccaaJ12
import Derived.Test.YtogkijjmimaccaaJ13
import Derived.Test.YtogkijjmimaccaaJ10
/- A cipher made; its round keys. -/
set_option linter.all false
set_option maxRecDepth 100000
namespace Go.Proofs.Ytogkijjmimaccaa
open Go.RowKit Go.Sort Lin
/-- A key has 16 or 32 bytes. -/
def Key (key : ByteArray) : Prop := key.size = 16 ∨ key.size = 32
def nkO (key : ByteArray) : Nat := key.size / 4
/-- The words of a key. -/
def kX (key : ByteArray) (j : Nat) : Int := if j < 4 * (nkO key + 7) then wQ (kQ (bF key) (nkO key) j) else 0
def Fresh (w : World) (b : Nat) (key : ByteArray) : Prop := Cph w b key 0 0 zT (fun _ => 0) 0
def Made (w : World) (b : Nat) (key : ByteArray) : Prop := Cph w b key 1 0 sT (kX key) ((nkO key + 6 : Nat) : Int)
def Either (w : World) (b : Nat) (key : ByteArray) : Prop := Fresh w b key ∨ Made w b key
theorem sched_any (key : ByteArray) (hk : Key key) (b : Nat) (d st : Int) (w : World) (hC0 : Cph w b key d st zT (fun _ => 0) 0) :
    Calls Try.prog 80 #[.pointer (some ⟨b, 0, none⟩)] w fun e w' => e = .returned (.tuple #[]) ∧ w.grownBy w' (some b) ∧ Cph w' b key d st sT (kX key) ((nkO key + 6 : Nat) : Int) := by
  rcases hk with h | h
  · have := sched_4 key h b d st (fun _ => 0) 0 (fun _ => rfl) w hC0
    unfold kX nkO
    rw [h]
    exact this
  · have := sched_8 key h b d st (fun _ => 0) 0 (fun _ => rfl) w hC0
    unfold kX nkO
    rw [h]
    exact this
theorem Made.to {w w' : World} {b : Nat} {key : ByteArray} (h : Made w b key) (hb : Below w.heap.size w w') : Made w' b key := Cph.to h hb
theorem Made.lt {w : World} {b : Nat} {key : ByteArray} (h : Made w b key) : b < w.heap.size := Cph.lt h
theorem Either.lt {w : World} {b : Nat} {key : ByteArray} (h : Either w b key) : b < w.heap.size := by rcases h with h | h <;> exact Cph.lt h
theorem Either.to {w w' : World} {b : Nat} {key : ByteArray} (h : Either w b key) (hb : Below w.heap.size w w') : Either w' b key := by
  rcases h with h | h
  · exact .inl (Cph.to h hb)
  · exact .inr (Cph.to h hb)
theorem drew_cph {w : World} {b : Nat} {key d st T X last} (h : Cph w b key d st T X last) : Cph w.drew b key d st T X last := h
set_option maxHeartbeats 1000000 in
theorem made_core (b : Nat) (w : World) (x0 : Value) (Q : World → Prop) (h0 : w.cell? ⟨b, 0, none⟩ = some x0)
    (C : Calls Try.prog 79 #[.pointer (some ⟨b, 1, none⟩), .func (.func 80) #[.pointer (some ⟨b, 0, none⟩)] #[]] w fun e w' => e = .returned (.tuple #[]) ∧ Q w') :
    Calls Try.prog 74 #[.pointer (some ⟨b, 0, none⟩)] w fun e w' => e = .returned (.pointer (some ⟨b, 0, none⟩)) ∧ Q w' := by
  have hmf : ∀ (fn : Fn) (first cap : Array Value) (w : World), (Instr.makeFunc fn first cap).run Try.prog w = .ok (.func fn first cap) w := fun _ _ _ _ => rfl
  go_enter Try.func74, Try.ntmps74
  go_wp2_with (go_at_call 79; refine C.mono ?_; rintro e w1 ⟨rfl, hq⟩)
  go_ret
  exact ⟨rfl, hq⟩
theorem made_first (key : ByteArray) (hk : Key key) (b : Nat) (w : World) (h : Fresh w b key) :
    Calls Try.prog 74 #[.pointer (some ⟨b, 0, none⟩)] w fun e w' => e = .returned (.pointer (some ⟨b, 0, none⟩)) ∧ w.grownBy w' (some b) ∧ Made w' b key := by
  refine made_core b w (.string key) _ (Arr.c h 0 (by omega)) ?_
  refine (do_first b w (fun w2 => (w.setCell ⟨b, 2, none⟩ (.int .i32 1)).grownBy w2 (some b) ∧ Cph w2 b key 0 1 sT (kX key) ((nkO key + 6 : Nat) : Int)) (Arr.c h 1 (by omega)) (Arr.c h 2 (by omega)) (Arr.z h 2 (by omega)) (sched_any key hk b 0 1 _ (Cph.setS h 1)) ?_).mono ?_
  · rintro w2 ⟨_, hC⟩
    exact ⟨Arr.c hC 1 (by omega), Arr.z hC 1 (by omega), Arr.c hC 2 (by omega), Arr.z hC 2 (by omega)⟩
  · rintro e w' ⟨he, w2, ⟨hG, hC⟩, rfl⟩
    refine ⟨he, ?_, Cph.setS (Cph.setD (drew_cph hC) 1) 0⟩
    exact gb_trans (gb_trans (gb_drew (gb_trans (gb_set w b 2 _) hG)) (gb_set _ _ _ _)) (gb_set _ _ _ _)
theorem made_again (key : ByteArray) (b : Nat) (w : World) (h : Made w b key) :
    Calls Try.prog 74 #[.pointer (some ⟨b, 0, none⟩)] w fun e w' => e = .returned (.pointer (some ⟨b, 0, none⟩)) ∧ w' = w :=
  made_core b w (.string key) (fun w' => w' = w) (Arr.c h 0 (by omega)) (do_done _ 1 (by decide) _ w (Arr.c h 1 (by omega)))
theorem made_any (key : ByteArray) (hk : Key key) (b : Nat) (w : World) (h : Either w b key) :
    Calls Try.prog 74 #[.pointer (some ⟨b, 0, none⟩)] w fun e w' => e = .returned (.pointer (some ⟨b, 0, none⟩)) ∧ w.grownBy w' (some b) ∧ Made w' b key := by
  rcases h with h | h
  · exact made_first key hk b w h
  · exact (made_again key b w h).mono fun e w' ⟨h1, h2⟩ => ⟨h1, by rw [h2]; exact gb_refl _ _, by rw [h2]; exact h⟩
/-- A round key's bytes. -/
def rk (key : ByteArray) (i j : Nat) : By := kB (bF key) (nkO key) (16 * i + j)
theorem kX_rk (key : ByteArray) (i c : Nat) (hi : i < nkO key + 7) (hc : c < 4) : kX key (4 * i + c) = col (rk key i) c := by
  have := col_kB (bF key) (nkO key) i c
  unfold kX
  rw [if_pos (by omega), ← this]
  rfl
theorem slc61 (b i : Nat) (hi : i < 15) (W : World) : (Instr.sliceAt 87 (.pointer (some ⟨b, 260, none⟩)) (some (.int .i64 (4 * (i : Int)))) (some (.int .i64 (4 * ((i : Int) + 1)))) none).run Try.prog W = .ok (.slice (some ⟨b, 260 + 4 * i, none⟩) 4 (60 - 4 * i)) W := by
  have e60 : Try.prog.arrayLen 87 = 60 := by kernel_rfl
  have h := run_sliceAt_array_lh (P := Try.prog) W 87 ⟨b, 260, none⟩ (by kernel_rfl) .i64 .i64 (4 * (i : Int)) (4 * ((i : Int) + 1)) (by omega) (by omega) (by rw [e60]; omega)
  rw [h, e60]
  have hs : (Go.sizeOf (Try.prog.elem 87)).run Try.prog W = .ok 1 W := by kernel_rfl
  rw [hs, Result.andThen_ok, slicedAt, show (4 * (i : Int)).toNat = 4 * i by omega, show (4 * ((i : Int) + 1)).toNat = 4 * i + 4 by omega, if_neg (by omega), Nat.mul_one, Addr.add_mid, show 4 * i + 4 - 4 * i = 4 by omega]
set_option maxHeartbeats 2000000 in
theorem roundKey_core (b i : Nat) (g : Nat → Int) (w : World) (hi : i < 15) (x0 : Value) (h0 : w.cell? ⟨b, 0, none⟩ = some x0) (hb : b < w.heap.size)
    (hc : ∀ c, c < 4 → w.cell? ⟨b, 260 + (4 * i + c), none⟩ = some (.int .u32 (g c))) :
    Calls Try.prog 75 #[.pointer (some ⟨b, 0, none⟩), .int .i64 (i : Int)] w fun e w' => e = .returned (bv g) ∧ Below w.heap.size w w' := by
  have i0 : (0 : Int) ≤ (i : Int) := by omega
  have i15 : (i : Int) < 15 := by omega
  have S := slc61 b i hi
  have A : ∀ W, (Instr.arrayAt 91 (.slice (some ⟨b, 260 + 4 * i, none⟩) 4 (60 - 4 * i))).run Try.prog W = .ok (.pointer (some ⟨b, 260 + 4 * i, none⟩)) W := fun W => by
    simp only [Instr.arrayAt, Sem.run_bind, run_underlying Try.underlying91, Result.andThen_ok]
    rfl
  have N := Arr.new w #[.int .u32 0, .int .u32 0, .int .u32 0, .int .u32 0] 91 _ rfl _ 4 z4_at
  have hB : Below w.heap.size w (w.alloc (.cells #[.int .u32 0, .int .u32 0, .int .u32 0, .int .u32 0] 91)) := (Below.refl _ _).alloc (Nat.le_refl _) _
  have HC : Hid (∀ c, c < 4 → (w.alloc (.cells #[.int .u32 0, .int .u32 0, .int .u32 0, .int .u32 0] 91)).cell? ⟨b, 260 + 4 * i + c, none⟩ = some (.int .u32 (g c))) := fun c h => by
    rw [World.cell?_alloc_past _ _ _ hb, Nat.add_assoc]
    exact hc c h
  clear hc
  go_enter Try.func75, Try.ntmps75
  go_upto_region 1 with (fail)
  generalize (w.alloc (.cells #[.int .u32 0, .int .u32 0, .int .u32 0, .int .u32 0] 91)) = w1 at *
  have c0 := HC.out 0 (by omega)
  have c1 := HC.out 1 (by omega)
  have c2 := HC.out 2 (by omega)
  have c3 := HC.out 3 (by omega)
  rw [Nat.add_zero] at c0
  have d := N.c
  have z := N.z
  have E := (N.st4 g).c
  clear HC
  go_wp2_with fail
  refine bodyPost_ret (v := bv g) ?_ rfl ⟨rfl, Bel.st4 hB (by omega) g⟩
  simp only [Go.Proofs.Ytogkijjmimaccaa.st4] at E
  simp [bv, results, Try.results75, go_sem, E]
theorem roundKey_any (key : ByteArray) (hk : Key key) (b i : Nat) (hi : i < nkO key + 7) (w : World) (hM : Made w b key) :
    Calls Try.prog 75 #[.pointer (some ⟨b, 0, none⟩), .int .i64 (i : Int)] w fun e w' => e = .returned (bv (col (rk key i))) ∧ Below w.heap.size w w' := by
  have h15 : nkO key + 7 ≤ 15 := by unfold nkO; rcases hk with h | h <;> omega
  refine roundKey_core b i _ w (by omega) (.string key) (Arr.c hM 0 (by omega)) hM.lt (fun c hc => ?_)
  rw [Arr.c hM (260 + (4 * i + c)) (by omega), cph_X _ (by omega), kX_rk key i c hi hc]
end Go.Proofs.Ytogkijjmimaccaa
/- The round keys handed out, forward and backward. -/
set_option linter.all false
set_option maxRecDepth 100000
namespace Go.Proofs.Ytogkijjmimaccaa
open Go.RowKit Go.Shelf Go.Sort
attribute [local go_sem] Oper.semAt_some
/-- What a round keeps: the cipher's block, and the box with its address. -/
def KM (b bx : Nat) (W W' : World) : Prop := (∀ f, Arr W b 321 f → Arr W' b 321 f) ∧ (∀ f, Arr W bx 1 f → Arr W' bx 1 f)
theorem KM.t {b bx : Nat} {A B C : World} (h1 : KM b bx A B) (h2 : KM b bx B C) : KM b bx A C := ⟨fun f h => h2.1 f (h1.1 f h), fun f h => h2.2 f (h1.2 f h)⟩
theorem KM.b {b bx : Nat} (W : World) (l : Nat) (o o' : Obj) (hl : W.heap[l]? = some o) (hc : o.isCells = false) : KM b bx W (W.putObj l o') :=
  ⟨fun f h => arr_kept h (grownBy_putObj' W l o') (fun r e => by cases e; exact ⟨o, hl, hc⟩), fun f h => arr_kept h (grownBy_putObj' W l o') (fun r e => by cases e; exact ⟨o, hl, hc⟩)⟩
theorem KM.g {b bx : Nat} (A B : World) (h : A.grownBy B none) : KM b bx A B := ⟨fun f hA => arr_kept hA h (fun r e => by cases e), fun f hA => arr_kept hA h (fun r e => by cases e)⟩
theorem KM.below {b bx : Nat} {W W' : World} (hb : Below W.heap.size W W') : KM b bx W W' := ⟨fun f h => h.below hb h.lt, fun f h => h.below hb h.lt⟩
def encK (key : ByteArray) (x : Nat) : Array Value := #[.int .i64 (x : Int), bv (col (rk key x))]
def MkF (key : ByteArray) (b : Nat) (pre : List Nat) (x : Nat) (W : World) : Prop := Made W b key ∧ x = pre.length ∧ x < nkO key + 7 ∧ pre = List.range x
def MkB (key : ByteArray) (b : Nat) (pre : List Nat) (x : Nat) (W : World) : Prop := Made W b key ∧ x + pre.length = nkO key + 6 ∧ x < nkO key + 7 ∧ pre = (List.range pre.length).map (nkO key + 6 - ·)
def AllF (key : ByteArray) (ys : List Nat) : Prop := ys = List.range (nkO key + 7)
def AllB (key : ByteArray) (ys : List Nat) : Prop := ys = (List.range (nkO key + 7)).map (nkO key + 6 - ·)
set_option maxHeartbeats 4000000 in
theorem forward1_in (key : ByteArray) (hk : Key key) (n l b bx : Nat) (hn : 1 ≤ n) (hne : bx ≠ b) (Jv Jx : List Nat → World → Prop) {B : Nat} (hJ : AbidesFrom B Jv) (hC : ∀ s A A', Jv s A → A.grownBy A' (some b) → Jv s A')
    (hY : ∀ pre (x : Nat) W, Jv pre W → MkF key b pre x W → YieldAt Fence.wide (n - 1) Try.prog l (encK key x) W fun e W' => (e = .returned (.bool true) ∧ Jv (pre ++ [x]) W' ∧ KM b bx W W') ∨ (e = .returned (.bool false) ∧ Jx (pre ++ [x]) W'))
    (W : World) (hE : Either W b key) (hA : Arr W bx 1 (fun _ => .pointer (some ⟨b, 0, none⟩))) (h0 : Jv [] W) :
    CallsIn Fence.wide n Try.prog 73 #[.func (.yield l) #[] #[], .pointer (some ⟨bx, 0, none⟩)] W fun e W' => (∃ v, e = .returned v) ∧
      ((∃ ys : List Nat, AllF key ys ∧ Jv ys W' ∧ Made W' b key) ∨ (∃ pre : List Nat, True ∧ Jx pre W')) := by
  have hd : 1 ≤ n := hn
  have nk1 : nkO key ≤ 8 := by unfold nkO; rcases hk with h | h <;> omega
  refine callsIn_of_wp Try.func73 rfl trivial ?_ rfl
  simp only [Try.ntmps73, List.size_toArray, List.length_cons, List.length_nil, Nat.reduceAdd, Nat.reduceSub, Array.replicate_succ, Array.replicate_zero, List.push_toArray, List.append_toArray, List.nil_append, List.cons_append]
  obtain ⟨m, hm⟩ : ∃ m, nkO key + 6 = m := ⟨_, rfl⟩
  have HM : Hid (nkO key + 6 = m) := hm
  have m14 : (m : Int) ≤ 14 := by omega
  clear hm
  have cb := hA.c 0 (by omega)
  have mk := made_any key hk b W hE
  gi_wp2_with (refine ⟨trivial, ?_⟩; gi_at_call 74; refine (callsIn_wide.2 mk).mono ?_; rintro e w1 ⟨rfl, hG, hM⟩; have cl := Arr.c hM 320 (by omega); rw [cph_l, HM.out] at cl; have c00 := Arr.c hM 0 (by omega))
  have A1 := gb_arr hG hne hA
  have J1 := hC _ _ _ h0 hG
  clear cb mk hE hA h0 cl c00 hG
  have hnot : ∀ (x : Bool) (w : World), (Op.unary .not (.bool x)).run Try.prog w = .ok (.bool (!x)) w := fun _ _ => rfl
  gi_loopw [10] (fun i wr => ∃ k : Nat, k ≤ m + 1 ∧ i = .int .i64 k ∧ Jv (List.range k) wr ∧ Made wr b key ∧ Arr wr bx 1 (fun _ => .pointer (some ⟨b, 0, none⟩))) (fun i _ => m + 1 - (intOf i).toNat)
  case atStart => exact ⟨0, by omega, rfl, J1, hM, A1⟩
  case round =>
    clear J1 hM A1
    obtain ⟨k, hkm, rfl, hJs, hM, hA⟩ := hrel
    have k0 : (0 : Int) ≤ (k : Int) := by omega
    by_cases hlt : k < m + 1
    · have k1 : (k : Int) < (m : Int) + 1 := by omega
      have cb := hA.c 0 (by omega)
      have rkc := roundKey_any key hk b k (by have := HM.out; omega) wr hM
      gi_wp2_with (refine ⟨trivial, ?_⟩; gi_at_call 75; refine (callsIn_wide.2 rkc).mono ?_; rintro e w2 ⟨rfl, hb⟩; have hJ2 := hJ _ wr w2 none hJs (gby hb) (fun r e => by cases e); have hM2 := hM.to hb; have hA2 := hA.to' hb; obtain ⟨fn, tmps, assign, body, hy, hR⟩ := hY (List.range k) k w2 hJ2 ⟨hM2, by simp, by have := HM.out; omega, rfl⟩; unfold encK at hy; clear hJs hM hA hb cb rkc)
      refine hR.mono ?_
      rintro e W3 (⟨rfl, hJ3, hK⟩ | ⟨rfl, hJx3⟩)
      · gi_wp2
        refine ⟨⟨k + 1, by omega, by go_num, by rw [List.range_succ]; exact hJ3, hK.1 _ hM2, hK.2 _ hA2⟩, by first | (simp [intOf]; done) | (simp [intOf]; omega)⟩
      · gi_wp2
        refine bodyPost_ret (results_none rfl _ _ _) rfl ?_
        exact ⟨⟨_, rfl⟩, .inr ⟨_, trivial, hJx3⟩⟩
    · have k1 : ¬ (k : Int) < (m : Int) + 1 := by omega
      have e : k = m + 1 := by omega
      gi_wp2
      go_end0
      refine ⟨⟨_, rfl⟩, .inl ⟨_, ?_, hJs, hM⟩⟩
      unfold AllF
      rw [e]
      congr 1
      have := HM.out
      omega
theorem forward_seq (key : ByteArray) (hk : Key key) (n b bx : Nat) (hn : 1 ≤ n) (hne : bx ≠ b) (w0 : World) (hE : Either w0 b key) (hA : Arr w0 bx 1 (fun _ => .pointer (some ⟨b, 0, none⟩))) :
    SeqM Fence.wide n Try.prog 73 #[.pointer (some ⟨bx, 0, none⟩)] (encK key) (KM b bx) (MkF key b) (fun _ => True) (AllF key) (fun _ => True) (some b) (fun W => Made W b key) w0 :=
  fun l Jv Jx W hW hJ _ hC _ hY h0 => forward1_in key hk n l b bx hn hne Jv Jx hJ hC hY W (hE.to hW) (hA.to' hW) h0
theorem forward_any (p : Addr) (w : World) : Calls Try.prog 59 #[.pointer (some p)] w fun e w' => e = .returned (.func (.func 73) #[] #[.pointer (some ⟨w.heap.size, 0, none⟩)]) ∧ w' = w.alloc (.cells #[.pointer (some p)] 101) := by
  go_enter Try.func59, Try.ntmps59
  go_wp2
  go_ret
  exact ⟨rfl, rfl⟩
end Go.Proofs.Ytogkijjmimaccaa
