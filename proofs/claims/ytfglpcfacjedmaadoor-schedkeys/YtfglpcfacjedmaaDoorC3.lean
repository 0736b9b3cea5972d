/- What sha.mixed answers: 64 rounds. -/
import Derived.Test.YtfglpcfacjedmaaDoorC2
set_option linter.all false
set_option maxRecDepth 100000
namespace Go.Proofs.YtfglpcfacjedmaaDoor
open Go.RowKit Go.Sort
/-- What the rounds add. -/
def kL : List Int := [1116352408, 1899447441, 3049323471, 3921009573, 961987163, 1508970993, 2453635748, 2870763221, 3624381080, 310598401, 607225278, 1426881987, 1925078388, 2162078206, 2614888103, 3248222580, 3835390401, 4022224774, 264347078, 604807628, 770255983, 1249150122, 1555081692, 1996064986, 2554220882, 2821834349, 2952996808, 3210313671, 3336571891, 3584528711, 113926993, 338241895, 666307205, 773529912, 1294757372, 1396182291, 1695183700, 1986661051, 2177026350, 2456956037, 2730485921, 2820302411, 3259730800, 3345764771, 3516065817, 3600352804, 4094571909, 275423344, 430227734, 506948616, 659060556, 883997877, 958139571, 1322822218, 1537002063, 1747873779, 1955562222, 2024104815, 2227730452, 2361852424, 2428436474, 2756734187, 3204031479, 3329325298]
def kk (j : Nat) : Int := kL.getD j 0
/-- What the first block is made into. -/
def bgn : Nat → Int
  | 0 => 1779033703
  | 1 => 3144134277
  | 2 => 1013904242
  | 3 => 2773480762
  | 4 => 1359893119
  | 5 => 2600822924
  | 6 => 528734635
  | 7 => 1541459225
  | _ => 0
/-- The two package-level variables hold what the text lays. -/
def Tab (w : World) : Prop := (∀ j, j < 8 → w.cell? ⟨0, j, none⟩ = some (.int .u32 (bgn j))) ∧ (∀ j, j < 64 → w.cell? ⟨1, j, none⟩ = some (.int .u32 (kk j))) ∧ 1 < w.heap.size
theorem Tab.to {w w' : World} (h : Tab w) (hb : Below w.heap.size w w') : Tab w' :=
  ⟨fun j hj => (hb.cell (p := ⟨0, j, none⟩) (Nat.lt_trans Nat.zero_lt_one h.2.2)).trans (h.1 j hj), fun j hj => (hb.cell (p := ⟨1, j, none⟩) h.2.2).trans (h.2.1 j hj), Nat.lt_of_lt_of_le h.2.2 hb.size⟩
theorem Tab.al {w : World} (h : Tab w) (o : Obj) : Tab (w.alloc o) := h.to ((Below.refl _ _).alloc (Nat.le_refl _) o)
theorem Tab.bel {w W : World} (h : Tab w) (hb : Below w.heap.size w W) : Tab W := h.to hb
/-- Eight words. -/
def w8 (h : Nat → Int) : Value := .agg #[.int .u32 (h 0), .int .u32 (h 1), .int .u32 (h 2), .int .u32 (h 3), .int .u32 (h 4), .int .u32 (h 5), .int .u32 (h 6), .int .u32 (h 7)]
def S1 (e : Int) : Int := bits .xor .u32 (bits .xor .u32 (rot e 6) (rot e 11)) (rot e 25)
def S0 (e : Int) : Int := bits .xor .u32 (bits .xor .u32 (rot e 2) (rot e 13)) (rot e 22)
def ch (e f g : Int) : Int := bits .xor .u32 (bits .and .u32 e f) (bits .and .u32 (bits .xor .u32 (if IntKind.u32.signed = true then -1 else IntKind.u32.max) e) g)
def mj (a b c : Int) : Int := bits .xor .u32 (bits .xor .u32 (bits .and .u32 a b) (bits .and .u32 a c)) (bits .and .u32 b c)
def tq (x : Nat → Int) (k w : Int) : Int := ((x 7 + S1 (x 4) + ch (x 4) (x 5) (x 6) + k) % 4294967296 + w) % 4294967296
def uq (x : Nat → Int) : Int := (S0 (x 0) + mj (x 0) (x 1) (x 2)) % 4294967296
/-- A round. -/
def rd (k w : Int) (x : Nat → Int) : Nat → Int
  | 0 => (tq x k w + uq x) % 4294967296
  | 1 => x 0
  | 2 => x 1
  | 3 => x 2
  | 4 => (x 3 + tq x k w) % 4294967296
  | 5 => x 4
  | 6 => x 5
  | 7 => x 6
  | _ => 0
theorem h8_at (h : Nat → Int) (j : Nat) (hj : j < 8) : (#[.int .u32 (h 0), .int .u32 (h 1), .int .u32 (h 2), .int .u32 (h 3), .int .u32 (h 4), .int .u32 (h 5), .int .u32 (h 6), .int .u32 (h 7)] : Array Value)[j]? = some (.int .u32 (h j)) := by
  have : j = 0 ∨ j = 1 ∨ j = 2 ∨ j = 3 ∨ j = 4 ∨ j = 5 ∨ j = 6 ∨ j = 7 := by omega
  rcases this with rfl | rfl | rfl | rfl | rfl | rfl | rfl | rfl <;> rfl
theorem z8_at (j : Nat) (hj : j < 8) : (#[.int .u32 0, .int .u32 0, .int .u32 0, .int .u32 0, .int .u32 0, .int .u32 0, .int .u32 0, .int .u32 0] : Array Value)[j]? = some (.int .u32 0) := h8_at (fun _ => 0) j hj
theorem idx59 (L : List Value) (k : Nat) (v : Int) (hk : k < 64) (hv : L[k]? = some (.int .u32 v)) (W : World) : (Instr.index 108 (.agg L.toArray) (.int .i64 (k : Int))).run Tryd.prog W = .ok (.int .u32 v) W := by
  have h0 : (0 : Int) ≤ (k : Int) ∧ (k : Int) < ((64 : Nat) : Int) := by omega
  have hs : (Go.sizeOf 67).run Tryd.prog W = .ok 1 W := by kernel_rfl
  have hv' : L.toArray[k]? = some (.int .u32 v) := by simpa using hv
  simp only [Instr.index, asIntOf, Sem.run_bind, Sem.run_pure, Result.andThen_ok, run_underlying Tryd.underlying108]
  rw [Sem.run_ite, if_pos h0]
  simp only [Sem.run_bind, hs, Result.andThen_ok, Int.toNat_natCast, Nat.mul_one]
  have ha : (isAgg 67).run Tryd.prog W = .ok false W := by kernel_rfl
  simp [part, Sem.run_bind, ha, hv']
theorem idx23 (A : Array Value) (k : Nat) (v : Int) (hk : k < 8) (hv : A[k]? = some (.int .u32 v)) (W : World) : (Instr.index 68 (.agg A) (.int .i64 (k : Int))).run Tryd.prog W = .ok (.int .u32 v) W := by
  have h0 : (0 : Int) ≤ (k : Int) ∧ (k : Int) < ((8 : Nat) : Int) := by omega
  have hs : (Go.sizeOf 67).run Tryd.prog W = .ok 1 W := by kernel_rfl
  simp only [Instr.index, asIntOf, Sem.run_bind, Sem.run_pure, Result.andThen_ok, run_underlying Tryd.underlying68]
  rw [Sem.run_ite, if_pos h0]
  simp only [Sem.run_bind, hs, Result.andThen_ok, Int.toNat_natCast, Nat.mul_one]
  have ha : (isAgg 67).run Tryd.prog W = .ok false W := by kernel_rfl
  simp [part, Sem.run_bind, ha, hv]
def kkL : List Value := kL.map (Value.int .u32)
theorem kkL_len : kkL.length = 64 := by decide
theorem kkL_at (j : Nat) (hj : j < 64) : kkL[j]? = some (.int .u32 (kk j)) := by
  have hk : kL.length = 64 := by decide
  have hl : j < kL.length := by omega
  simp [kkL, kk, hl]
theorem Tab.kr {w : World} (h : Tab w) : w.rangeAt 1 0 kkL := fun j v hv => by
  have hj : j < 64 := by rw [← kkL_len]; exact (List.getElem?_eq_some_iff.1 hv).1
  rw [Nat.zero_add, h.2.1 j hj, ← kkL_at j hj]; exact hv
set_option maxHeartbeats 4000000 in
theorem mixed_core (h : Nat → Int) (L KL : List Value) (g K : Nat → Int) (S : Nat → Nat → Int) (hlen : L.length = 64) (hat : ∀ j, j < 64 → L[j]? = some (.int .u32 (g j)))
    (klen : KL.length = 64) (kat : ∀ j, j < 64 → KL[j]? = some (.int .u32 (K j))) (h0 : ∀ j, S 0 j = h j) (hS : ∀ k, k < 64 → S (k + 1) = rd (K k) (g k) (S k)) (w : World) (hT : Tab w) (hK : ∀ W, Below w.heap.size w W → W.rangeAt 1 0 KL) :
    Calls Tryd.prog 74 #[w8 h, .agg L.toArray] w fun e w' => e = .returned (w8 (fun j => (h j + S 64 j) % 4294967296)) ∧ Below w.heap.size w w' := by
  unfold w8
  go_enter Tryd.func74, Tryd.ntmps74
  go_wp2_with fail
  have A0 := ((Arr.new w #[.int .u32 (h 0), .int .u32 (h 1), .int .u32 (h 2), .int .u32 (h 3), .int .u32 (h 4), .int .u32 (h 5), .int .u32 (h 6), .int .u32 (h 7)] 68 _ rfl _ 8 (h8_at h)).al' (.cells L.toArray 108)).al' (.cells #[.int .u32 0, .int .u32 0, .int .u32 0, .int .u32 0, .int .u32 0, .int .u32 0, .int .u32 0, .int .u32 0] 68)
  have A1 := (Arr.new (w.alloc (.cells #[.int .u32 (h 0), .int .u32 (h 1), .int .u32 (h 2), .int .u32 (h 3), .int .u32 (h 4), .int .u32 (h 5), .int .u32 (h 6), .int .u32 (h 7)] 68)) L.toArray 108 (w.heap.size + 1) (by simp) (fun j => .int .u32 (g j)) 64 (by intro j hj; rw [List.getElem?_toArray]; exact hat j hj)).al' (.cells #[.int .u32 0, .int .u32 0, .int .u32 0, .int .u32 0, .int .u32 0, .int .u32 0, .int .u32 0, .int .u32 0] 68)
  have A2 := Arr.new ((w.alloc (.cells #[.int .u32 (h 0), .int .u32 (h 1), .int .u32 (h 2), .int .u32 (h 3), .int .u32 (h 4), .int .u32 (h 5), .int .u32 (h 6), .int .u32 (h 7)] 68)).alloc (.cells L.toArray 108)) #[.int .u32 0, .int .u32 0, .int .u32 0, .int .u32 0, .int .u32 0, .int .u32 0, .int .u32 0, .int .u32 0] 68 (w.heap.size + 1 + 1) (by simp) (fun _ => .int .u32 0) 8 z8_at
  have hB : Below w.heap.size w (((w.alloc (.cells #[.int .u32 (h 0), .int .u32 (h 1), .int .u32 (h 2), .int .u32 (h 3), .int .u32 (h 4), .int .u32 (h 5), .int .u32 (h 6), .int .u32 (h 7)] 68)).alloc (.cells L.toArray 108)).alloc (.cells #[.int .u32 0, .int .u32 0, .int .u32 0, .int .u32 0, .int .u32 0, .int .u32 0, .int .u32 0, .int .u32 0] 68)) := by go_grown
  generalize (((w.alloc (.cells #[.int .u32 (h 0), .int .u32 (h 1), .int .u32 (h 2), .int .u32 (h 3), .int .u32 (h 4), .int .u32 (h 5), .int .u32 (h 6), .int .u32 (h 7)] 68)).alloc (.cells L.toArray 108)).alloc (.cells #[.int .u32 0, .int .u32 0, .int .u32 0, .int .u32 0, .int .u32 0, .int .u32 0, .int .u32 0, .int .u32 0] 68)) = W at *
  clear hlen hat
  have c0 := fun j hj ds os => cell_regrown (A0.c j hj) ds os
  have r0 := c0 0 (by omega)
  have r1 := c0 1 (by omega)
  have r2 := c0 2 (by omega)
  have r3 := c0 3 (by omega)
  refine wp_region_quiet_below (by kernel_rfl) (by kernel_rfl) ?_
  repeat (go_big_quiet_step (fail))
  refine wpQuiet_nil ?_
  intro w1 hw'
  obtain ⟨⟨dq, osq⟩, hw''⟩ := hw'
  have hb := below_of hw''
  clear hw'' r0 r1 r2 r3 c0
  have hB1 := Bel.call hB hb
  have B0 := A0.to' hb
  have B1 := A1.to' hb
  have B2 := A2.to' hb
  clear A0 A1 A2 hB hb
  have c0 := fun j hj ds os => cell_regrown (B0.c j hj) ds os
  have r0 := c0 4 (by omega)
  have r1 := c0 5 (by omega)
  have r2 := c0 6 (by omega)
  have r3 := c0 7 (by omega)
  clear c0
  go_wp2_with fail
  refine wp_region_quiet_below (by kernel_rfl) (by kernel_rfl) ?_
  repeat (go_big_quiet_step (fail))
  refine wpQuiet_nil ?_
  intro w2 hw'
  obtain ⟨⟨dq, osq⟩, hw''⟩ := hw'
  have hb := below_of hw''
  clear hw'' r0 r1 r2 r3
  have hB := Bel.call hB1 hb
  have A0 := B0.to' hb
  have A1 := B1.to' hb
  have A2 := B2.to' hb
  clear B0 B1 B2 hB1 hb
  have HR : Hid _ := hK w2 hB
  have HI : Hid ((Tryd.prog.info? 108).map (·.size) = some KL.length) := by rw [klen]; exact Tryd.info108
  go_upto_region 3 with (fail)
  refine wp_region_list ?_
  refine wpList_load_mid (by rfl) 108 (.global 1) (by rfl) _ _ (by rfl) KL _ HR.out Tryd.underlying108 rfl HI.out ?_
  clear HR HI hK klen hT
  go_wp2_with fail
  go_loopw [36, 5, 6, 7, 8, 9, 10, 11, 12] (fun i x0 x1 x2 x3 x4 x5 x6 x7 wr => ∃ k : Nat, k ≤ 64 ∧ i = .int .i64 k ∧ x0 = .int .u32 (S k 0) ∧ x1 = .int .u32 (S k 1) ∧ x2 = .int .u32 (S k 2) ∧ x3 = .int .u32 (S k 3) ∧ x4 = .int .u32 (S k 4) ∧ x5 = .int .u32 (S k 5) ∧ x6 = .int .u32 (S k 6) ∧ x7 = .int .u32 (S k 7) ∧ Below w.heap.size w wr ∧
      Arr wr w.heap.size 8 (fun j => .int .u32 (h j)) ∧ Arr wr (w.heap.size + 1) 64 (fun j => .int .u32 (g j)) ∧ Arr wr (w.heap.size + 1 + 1) 8 (fun _ => .int .u32 0))
    (fun i _ _ _ _ _ _ _ _ _ => 64 - (intOf i).toNat)
  case atStart => exact ⟨0, by omega, rfl, by rw [h0], by rw [h0], by rw [h0], by rw [h0], by rw [h0], by rw [h0], by rw [h0], by rw [h0], hB, A0, A1, A2⟩
  case round =>
    clear A0 A1 A2 hB h0
    obtain ⟨k, hk, rfl, rfl, rfl, rfl, rfl, rfl, rfl, rfl, rfl, hB, A0, A1, A2⟩ := hrel
    by_cases hlt : k < 64
    · have k0 : (0 : Int) ≤ (k : Int) := by omega
      have k64 : (k : Int) < 64 := by omega
      have I := fun W => idx59 KL k (K k) hlt (kat k hlt) W
      have r := fun ds os => cell_regrown (A1.c k hlt) ds os
      have s1 : Hid (S (k + 1) 1 = S k 0) := by show S (k + 1) 1 = S k 0; rw [hS k hlt]; rfl
      have s2 : Hid (S (k + 1) 2 = S k 1) := by show S (k + 1) 2 = S k 1; rw [hS k hlt]; rfl
      have s3 : Hid (S (k + 1) 3 = S k 2) := by show S (k + 1) 3 = S k 2; rw [hS k hlt]; rfl
      have s5 : Hid (S (k + 1) 5 = S k 4) := by show S (k + 1) 5 = S k 4; rw [hS k hlt]; rfl
      have s6 : Hid (S (k + 1) 6 = S k 5) := by show S (k + 1) 6 = S k 5; rw [hS k hlt]; rfl
      have s7 : Hid (S (k + 1) 7 = S k 6) := by show S (k + 1) 7 = S k 6; rw [hS k hlt]; rfl
      have s0 : Hid (S (k + 1) 0 = (((S k 7 + bits .xor .u32 (bits .xor .u32 (rot (S k 4) 6) (rot (S k 4) 11)) (rot (S k 4) 25) + bits .xor .u32 (bits .and .u32 (S k 4) (S k 5)) (bits .and .u32 (bits .xor .u32 (if IntKind.u32.signed = true then -1 else IntKind.u32.max) (S k 4)) (S k 6)) + K k) % 4294967296 + g k) % 4294967296 + (bits .xor .u32 (bits .xor .u32 (rot (S k 0) 2) (rot (S k 0) 13)) (rot (S k 0) 22) + bits .xor .u32 (bits .xor .u32 (bits .and .u32 (S k 0) (S k 1)) (bits .and .u32 (S k 0) (S k 2))) (bits .and .u32 (S k 1) (S k 2))) % 4294967296) % 4294967296) := by show S (k + 1) 0 = _; rw [hS k hlt]; rfl
      have s4 : Hid (S (k + 1) 4 = (S k 3 + ((S k 7 + bits .xor .u32 (bits .xor .u32 (rot (S k 4) 6) (rot (S k 4) 11)) (rot (S k 4) 25) + bits .xor .u32 (bits .and .u32 (S k 4) (S k 5)) (bits .and .u32 (bits .xor .u32 (if IntKind.u32.signed = true then -1 else IntKind.u32.max) (S k 4)) (S k 6)) + K k) % 4294967296 + g k) % 4294967296) % 4294967296) := by show S (k + 1) 4 = _; rw [hS k hlt]; rfl
      clear hS
      generalize S k 0 = a at *
      generalize S k 1 = b at *
      generalize S k 2 = c at *
      generalize S k 3 = d at *
      generalize S k 4 = e at *
      generalize S k 5 = f at *
      generalize S k 6 = g' at *
      generalize S k 7 = h' at *
      clear kat
      go_wp2_with fail
      refine wp_region_quiet_below (by kernel_rfl) (by kernel_rfl) ?_
      repeat (go_big_quiet_step (first | (go_at_call 83; exact Calls.regrown_of (turned_any _ _ (by first | exact amt_6 | exact amt_11 | exact amt_25) _))))
      refine wpQuiet_nil ?_
      intro w3 hw'
      obtain ⟨⟨dq, osq⟩, hw''⟩ := hw'
      have hb := below_of hw''
      clear hw'' r
      have hB' := Bel.call hB hb
      have B0 := A0.to' hb
      have B1 := A1.to' hb
      have B2 := A2.to' hb
      clear A0 A1 A2 hB hb
      generalize hTT : ((h' + bits .xor .u32 (bits .xor .u32 (rot e 6) (rot e 11)) (rot e 25) + bits .xor .u32 (bits .and .u32 e f) (bits .and .u32 (bits .xor .u32 (if IntKind.u32.signed = true then -1 else IntKind.u32.max) e) g') + K k) % 4294967296 + g k) % 4294967296 = T at *
      have HT : Hid _ := hTT
      clear hTT
      go_wp2_with (go_at_call 83; refine (turned_s _ _ (by first | exact amt_2 | exact amt_13 | exact amt_22) _).mono ?_; rintro e w2 ⟨rfl, rfl⟩)
      have o0 := s0.out
      have o1 := s1.out
      have o2 := s2.out
      have o3 := s3.out
      have o4 := s4.out
      have o5 := s5.out
      have o6 := s6.out
      have o7 := s7.out
      exact ⟨⟨k + 1, by omega, by go_num, by rw [o0], by rw [o1], by rw [o2], by rw [o3], by rw [o4], by rw [o5], by rw [o6], by rw [o7], hB', B0, B1, B2⟩, by simp [intOf]; omega⟩
    · have e64 : k = 64 := by omega
      have ek : ((k : Nat) : Int) = 64 := by omega
      rw [ek]
      clear ek
      subst e64
      clear kat hS A1 hlt hk
      generalize hy : S 64 = y at *
      have HY : Hid _ := hy
      clear hy
      go_wp2_with fail
      go_loopw [107] (fun i wr => ∃ k : Nat, k ≤ 8 ∧ i = .int .i64 k ∧ Below w.heap.size w wr ∧
          Arr wr w.heap.size 8 (fun j => .int .u32 (if j < k then (h j + y j) % 4294967296 else h j)) ∧ Arr wr (w.heap.size + 1 + 1) 8 (fun _ => .int .u32 0))
        (fun i _ => 8 - (intOf i).toNat)
      case atStart => exact ⟨0, by omega, rfl, hB, A0.congr (by intro j hj; rw [if_neg (by omega)]), A2⟩
      case round =>
        clear A0 A2 hB
        obtain ⟨k, hk, rfl, hB, A0, A2⟩ := hrel
        by_cases hlt : k < 8
        · have k0 : (0 : Int) ≤ (k : Int) := by omega
          have k8 : (k : Int) < 8 := by omega
          have I := fun W => idx23 #[.int .u32 (y 0), .int .u32 (y 1), .int .u32 (y 2), .int .u32 (y 3), .int .u32 (y 4), .int .u32 (y 5), .int .u32 (y 6), .int .u32 (y 7)] k (y k) hlt (h8_at y k hlt) W
          have r := A0.cv k hlt (.int .u32 (h k)) (by rw [if_neg (by omega)])
          have z := A0.z k hlt
          go_wp2_with fail
          refine ⟨⟨k + 1, by omega, by go_num, Bel.st hB (Nat.le_refl _) _, (A0.set k hlt _).congr ?_, A2.other (by omega) _⟩, by simp [intOf]; omega⟩
          intro j hj
          by_cases e : j = k
          · subst e; simp
          · simp only [if_neg e]
            by_cases e2 : j < k
            · rw [if_pos e2, if_pos (by omega)]
            · rw [if_neg e2, if_neg (by omega)]
        · have e8 : k = 8 := by omega
          subst e8
          have B0 := A0.congr (g := fun j => .int .u32 ((h j + y j) % 4294967296)) (by intro j hj; rw [if_pos hj])
          have c := B0.c
          have c2 := A2.c
          have z2 := A2.z
          clear A0 B0
          go_wp2_with fail
          refine bodyPost_ret (v := .agg #[.int .u32 ((h 0 + y 0) % 4294967296), .int .u32 ((h 1 + y 1) % 4294967296), .int .u32 ((h 2 + y 2) % 4294967296), .int .u32 ((h 3 + y 3) % 4294967296), .int .u32 ((h 4 + y 4) % 4294967296), .int .u32 ((h 5 + y 5) % 4294967296), .int .u32 ((h 6 + y 6) % 4294967296), .int .u32 ((h 7 + y 7) % 4294967296)]) (by simp [results, Tryd.results74, go_sem, c2]) rfl ⟨by rw [HY.out], ?_⟩
          go_grown
end Go.Proofs.YtfglpcfacjedmaaDoor
