/- A cipher made; its round keys. -/
import Derived.Test.YtjaljnfijhfkcaaGreatDoorJ17
import Derived.Test.YtjaljnfijhfkcaaGreatDoorJ18
import Derived.Test.YtjaljnfijhfkcaaGreatDoorJ19
set_option linter.all false
set_option maxRecDepth 100000
namespace Go.Proofs.YtjaljnfijhfkcaaGreatDoor
open Go.RowKit Go.Sort Lin
/-- A key has 16 or 32 bytes. -/
def Key (key : ByteArray) : Prop := key.size = 16 ∨ key.size = 32
def nkO (key : ByteArray) : Nat := key.size / 4
/-- The words of a key. -/
def kX (key : ByteArray) (j : Nat) : Int := if j < 4 * (nkO key + 7) then wQ (kQ (bF key) (nkO key) j) else 0
def Fresh (w : World) (b : Nat) (key : ByteArray) : Prop := Cph w b key 0 0 zT (fun _ => 0) 0
def Made (w : World) (b : Nat) (key : ByteArray) : Prop := Cph w b key 1 0 sT (kX key) ((nkO key + 6 : Nat) : Int)
def Either (w : World) (b : Nat) (key : ByteArray) : Prop := Fresh w b key ∨ Made w b key
theorem sched_any (key : ByteArray) (hk : Key key) (b : Nat) (d st : Int) (w : World) (hC0 : Cph w b key d st zT (fun _ => 0) 0) :
    Calls Tryz.prog 131 #[.pointer (some ⟨b, 0, none⟩)] w fun e w' => e = .returned (.tuple #[]) ∧ w.grownBy w' (some b) ∧ Cph w' b key d st sT (kX key) ((nkO key + 6 : Nat) : Int) := by
  rcases hk with h | h
  · have := sched_4 key h b d st (fun _ => 0) 0 (fun _ => rfl) w hC0
    unfold kX nkO
    rw [h]
    exact this
  · have := sched_8 key h b d st (fun _ => 0) 0 (fun _ => rfl) w hC0
    unfold kX nkO
    rw [h]
    exact this
theorem Made.to {w w' : World} {b : Nat} {key : ByteArray} (h : Made w b key) (hb : Below w.heap.size w w') : Made w' b key := Cph.to h hb
theorem Made.lt {w : World} {b : Nat} {key : ByteArray} (h : Made w b key) : b < w.heap.size := Cph.lt h
theorem Either.lt {w : World} {b : Nat} {key : ByteArray} (h : Either w b key) : b < w.heap.size := by rcases h with h | h <;> exact Cph.lt h
theorem Either.to {w w' : World} {b : Nat} {key : ByteArray} (h : Either w b key) (hb : Below w.heap.size w w') : Either w' b key := by
  rcases h with h | h
  · exact .inl (Cph.to h hb)
  · exact .inr (Cph.to h hb)
theorem drew_cph {w : World} {b : Nat} {key d st T X last} (h : Cph w b key d st T X last) : Cph w.drew b key d st T X last := h
set_option maxHeartbeats 1000000 in
theorem made_core (b : Nat) (w : World) (x0 : Value) (Q : World → Prop) (h0 : w.cell? ⟨b, 0, none⟩ = some x0)
    (C : Calls Tryz.prog 130 #[.pointer (some ⟨b, 1, none⟩), .func (.func 131) #[.pointer (some ⟨b, 0, none⟩)] #[]] w fun e w' => e = .returned (.tuple #[]) ∧ Q w') :
    Calls Tryz.prog 124 #[.pointer (some ⟨b, 0, none⟩)] w fun e w' => e = .returned (.pointer (some ⟨b, 0, none⟩)) ∧ Q w' := by
  have hmf : ∀ (fn : Fn) (first cap : Array Value) (w : World), (Instr.makeFunc fn first cap).run Tryz.prog w = .ok (.func fn first cap) w := fun _ _ _ _ => rfl
  go_enter Tryz.func124, Tryz.ntmps124
  go_wp2_with (go_at_call 130; refine C.mono ?_; rintro e w1 ⟨rfl, hq⟩)
  go_ret
  exact ⟨rfl, hq⟩
theorem made_first (key : ByteArray) (hk : Key key) (b : Nat) (w : World) (h : Fresh w b key) :
    Calls Tryz.prog 124 #[.pointer (some ⟨b, 0, none⟩)] w fun e w' => e = .returned (.pointer (some ⟨b, 0, none⟩)) ∧ w.grownBy w' (some b) ∧ Made w' b key := by
  refine made_core b w (.string key) _ (Arr.c h 0 (by omega)) ?_
  refine (do_first b w (fun w2 => (w.setCell ⟨b, 2, none⟩ (.int .i32 1)).grownBy w2 (some b) ∧ Cph w2 b key 0 1 sT (kX key) ((nkO key + 6 : Nat) : Int)) (Arr.c h 1 (by omega)) (Arr.c h 2 (by omega)) (Arr.z h 2 (by omega)) (sched_any key hk b 0 1 _ (Cph.setS h 1)) ?_).mono ?_
  · rintro w2 ⟨_, hC⟩
    exact ⟨Arr.c hC 1 (by omega), Arr.z hC 1 (by omega), Arr.c hC 2 (by omega), Arr.z hC 2 (by omega)⟩
  · rintro e w' ⟨he, w2, ⟨hG, hC⟩, rfl⟩
    refine ⟨he, ?_, Cph.setS (Cph.setD (drew_cph hC) 1) 0⟩
    exact gb_trans (gb_trans (gb_drew (gb_trans (gb_set w b 2 _) hG)) (gb_set _ _ _ _)) (gb_set _ _ _ _)
theorem made_again (key : ByteArray) (b : Nat) (w : World) (h : Made w b key) :
    Calls Tryz.prog 124 #[.pointer (some ⟨b, 0, none⟩)] w fun e w' => e = .returned (.pointer (some ⟨b, 0, none⟩)) ∧ w' = w :=
  made_core b w (.string key) (fun w' => w' = w) (Arr.c h 0 (by omega)) (do_done _ 1 (by decide) _ w (Arr.c h 1 (by omega)))
theorem made_any (key : ByteArray) (hk : Key key) (b : Nat) (w : World) (h : Either w b key) :
    Calls Tryz.prog 124 #[.pointer (some ⟨b, 0, none⟩)] w fun e w' => e = .returned (.pointer (some ⟨b, 0, none⟩)) ∧ w.grownBy w' (some b) ∧ Made w' b key := by
  rcases h with h | h
  · exact made_first key hk b w h
  · exact (made_again key b w h).mono fun e w' ⟨h1, h2⟩ => ⟨h1, by rw [h2]; exact gb_refl _ _, by rw [h2]; exact h⟩
/-- A round key's bytes. -/
def rk (key : ByteArray) (i j : Nat) : By := kB (bF key) (nkO key) (16 * i + j)
theorem kX_rk (key : ByteArray) (i c : Nat) (hi : i < nkO key + 7) (hc : c < 4) : kX key (4 * i + c) = col (rk key i) c := by
  have := col_kB (bF key) (nkO key) i c
  unfold kX
  rw [if_pos (by omega), ← this]
  rfl
theorem slc61 (b i : Nat) (hi : i < 15) (W : World) : (Instr.sliceAt 164 (.pointer (some ⟨b, 260, none⟩)) (some (.int .i64 (4 * (i : Int)))) (some (.int .i64 (4 * ((i : Int) + 1)))) none).run Tryz.prog W = .ok (.slice (some ⟨b, 260 + 4 * i, none⟩) 4 (60 - 4 * i)) W := by
  have e60 : Tryz.prog.arrayLen 164 = 60 := by kernel_rfl
  have h := run_sliceAt_array_lh (P := Tryz.prog) W 164 ⟨b, 260, none⟩ (by kernel_rfl) .i64 .i64 (4 * (i : Int)) (4 * ((i : Int) + 1)) (by omega) (by omega) (by rw [e60]; omega)
  rw [h, e60]
  have hs : (Go.sizeOf (Tryz.prog.elem 164)).run Tryz.prog W = .ok 1 W := by kernel_rfl
  rw [hs, Result.andThen_ok, slicedAt, show (4 * (i : Int)).toNat = 4 * i by omega, show (4 * ((i : Int) + 1)).toNat = 4 * i + 4 by omega, if_neg (by omega), Nat.mul_one, Addr.add_mid, show 4 * i + 4 - 4 * i = 4 by omega]
set_option maxHeartbeats 2000000 in
theorem roundKey_core (b i : Nat) (g : Nat → Int) (w : World) (hi : i < 15) (x0 : Value) (h0 : w.cell? ⟨b, 0, none⟩ = some x0) (hb : b < w.heap.size)
    (hc : ∀ c, c < 4 → w.cell? ⟨b, 260 + (4 * i + c), none⟩ = some (.int .u32 (g c))) :
    Calls Tryz.prog 125 #[.pointer (some ⟨b, 0, none⟩), .int .i64 (i : Int)] w fun e w' => e = .returned (bv g) ∧ Below w.heap.size w w' := by
  have i0 : (0 : Int) ≤ (i : Int) := by omega
  have i15 : (i : Int) < 15 := by omega
  have S := slc61 b i hi
  have A : ∀ W, (Instr.arrayAt 168 (.slice (some ⟨b, 260 + 4 * i, none⟩) 4 (60 - 4 * i))).run Tryz.prog W = .ok (.pointer (some ⟨b, 260 + 4 * i, none⟩)) W := fun W => by
    simp only [Instr.arrayAt, Sem.run_bind, run_underlying Tryz.underlying168, Result.andThen_ok]
    rfl
  have N := Arr.new w #[.int .u32 0, .int .u32 0, .int .u32 0, .int .u32 0] 168 _ rfl _ 4 z4_at
  have hB : Below w.heap.size w (w.alloc (.cells #[.int .u32 0, .int .u32 0, .int .u32 0, .int .u32 0] 168)) := (Below.refl _ _).alloc (Nat.le_refl _) _
  have HC : Hid (∀ c, c < 4 → (w.alloc (.cells #[.int .u32 0, .int .u32 0, .int .u32 0, .int .u32 0] 168)).cell? ⟨b, 260 + 4 * i + c, none⟩ = some (.int .u32 (g c))) := fun c h => by
    rw [World.cell?_alloc_past _ _ _ hb, Nat.add_assoc]
    exact hc c h
  clear hc
  go_enter Tryz.func125, Tryz.ntmps125
  go_upto_region 1 with (fail)
  generalize (w.alloc (.cells #[.int .u32 0, .int .u32 0, .int .u32 0, .int .u32 0] 168)) = w1 at *
  have c0 := HC.out 0 (by omega)
  have c1 := HC.out 1 (by omega)
  have c2 := HC.out 2 (by omega)
  have c3 := HC.out 3 (by omega)
  rw [Nat.add_zero] at c0
  have d := N.c
  have z := N.z
  have E := (N.st4 g).c
  clear HC
  go_wp2_with fail
  refine bodyPost_ret (v := bv g) ?_ rfl ⟨rfl, Bel.st4 hB (by omega) g⟩
  simp only [Go.Proofs.YtjaljnfijhfkcaaGreatDoor.st4] at E
  simp [bv, results, Tryz.results125, go_sem, E]
theorem roundKey_any (key : ByteArray) (hk : Key key) (b i : Nat) (hi : i < nkO key + 7) (w : World) (hM : Made w b key) :
    Calls Tryz.prog 125 #[.pointer (some ⟨b, 0, none⟩), .int .i64 (i : Int)] w fun e w' => e = .returned (bv (col (rk key i))) ∧ Below w.heap.size w w' := by
  have h15 : nkO key + 7 ≤ 15 := by unfold nkO; rcases hk with h | h <;> omega
  refine roundKey_core b i _ w (by omega) (.string key) (Arr.c hM 0 (by omega)) hM.lt (fun c hc => ?_)
  rw [Arr.c hM (260 + (4 * i + c)) (by omega), cph_X _ (by omega), kX_rk key i c hi hc]
end Go.Proofs.YtjaljnfijhfkcaaGreatDoor
