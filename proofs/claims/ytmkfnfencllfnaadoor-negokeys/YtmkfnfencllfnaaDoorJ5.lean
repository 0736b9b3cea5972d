/- Texts joined: R3, R4, R5, H7, H8, SA, SB, SC, SD, SE, SF, SG, QO, QP, QR. -/
import Derived.Deep.RegionHeld3
import Derived.Test.YtmkfnfencllfnaaDoorJ4
import Derived.Test.YtmkfnfencllfnaaDoorJ1
import Derived.Test.YtmkfnfencllfnaaDoorJ3
/- What the reference's Write answers. -/
set_option linter.all false
set_option maxRecDepth 100000
namespace Go.Proofs.YtmkfnfencllfnaaDoor
open Go.RowKit Go.Sort
/-- A text's length, of a value. -/
def lenV : Value → Nat
  | .string t => t.size
  | _ => 0
theorem cut_ext (T t : ByteArray) (k : Nat) (ht : t = T.extract (64 * k) T.size) (hz : 64 * k + 64 ≤ T.size) : t.extract 0 64 = cutB T k := by
  rw [ht, cutB, ByteArray.extract_extract]
  congr 1
  omega
theorem cut_rest (T t : ByteArray) (k : Nat) (ht : t = T.extract (64 * k) T.size) (hz : 64 * k + 64 ≤ T.size) : t.extract 64 t.size = T.extract (64 * (k + 1)) T.size := by
  have tz : t.size = T.size - 64 * k := by rw [ht, ByteArray.size_extract]; omega
  rw [tz, ht, ByteArray.extract_extract]
  congr 1
  omega
theorem Arr.st8h {w : World} {b : Nat} {h : Nat → Int} {L : ByteArray} {n : Int} (A : Arr w b 10 (hx h L n)) (g : Nat → Int) : Arr (Go.Proofs.YtmkfnfencllfnaaDoor.st8 w b g) b 10 (hx g L n) :=
  ((((((((A.set 0 (by omega) _).set 1 (by omega) _).set 2 (by omega) _).set 3 (by omega) _).set 4 (by omega) _).set 5 (by omega) _).set 6 (by omega) _).set 7 (by omega) _).congr (by
    intro j hj
    have : j = 0 ∨ j = 1 ∨ j = 2 ∨ j = 3 ∨ j = 4 ∨ j = 5 ∨ j = 6 ∨ j = 7 ∨ j = 8 ∨ j = 9 := by omega
    rcases this with rfl | rfl | rfl | rfl | rfl | rfl | rfl | rfl | rfl | rfl <;> simp [hx])
set_option maxHeartbeats 4000000 in
theorem rwrite_core (h : Nat → Int) (L s T : ByteArray) (n m : Int) (F : Nat → Nat → Int) (hs : s.size ≤ 1000000) (hL : L.size ≤ 1000000) (hT : L ++ s = T) (hm : IntKind.u64.wrap (n + (s.size : Int)) = m) (h0 : F 0 = h)
    (C9 : ∀ (t : ByteArray) k W, t = T.extract (64 * k) T.size → 64 * k + 64 ≤ T.size → Calls Tryd.prog 69 #[w8 (F k), .string (t.extract 0 64)] W fun e w' => e = .returned (.tuple #[w8 (F (k + 1)), .int .i64 0]) ∧ Below W.heap.size W w')
    (g : Nat → Int) (R : ByteArray) (hg : g = F (T.size / 64)) (hR : R = T.extract (64 * (T.size / 64)) T.size) (w : World) :
    Calls Tryd.prog 54 #[hv h L n, .string s] w fun e w' => e = .returned (hv g R m) ∧ Below w.heap.size w w' := by
  have hTz : T.size ≤ 2000000 := by rw [← hT, app_size]; omega
  unfold hv w8 at *
  go_enter Tryd.func54, Tryd.ntmps54
  go_wp2_with fail
  have A0 := (Arr.new w #[.int .u32 (h 0), .int .u32 (h 1), .int .u32 (h 2), .int .u32 (h 3), .int .u32 (h 4), .int .u32 (h 5), .int .u32 (h 6), .int .u32 (h 7), .string L, .int .u64 m] 102 _ rfl _ 10 (hx_at h L m)).al' (.cells #[.int .u32 0, .int .u32 0, .int .u32 0, .int .u32 0, .int .u32 0, .int .u32 0, .int .u32 0, .int .u32 0, .string ⟨#[]⟩, .int .u64 0] 102)
  have A1 := Arr.new (w.alloc (.cells #[.int .u32 (h 0), .int .u32 (h 1), .int .u32 (h 2), .int .u32 (h 3), .int .u32 (h 4), .int .u32 (h 5), .int .u32 (h 6), .int .u32 (h 7), .string L, .int .u64 m] 102)) #[.int .u32 0, .int .u32 0, .int .u32 0, .int .u32 0, .int .u32 0, .int .u32 0, .int .u32 0, .int .u32 0, .string ⟨#[]⟩, .int .u64 0] 102 (w.heap.size + 1) (by simp) (hx (fun _ => 0) ⟨#[]⟩ 0) 10 (hx_at (fun _ => 0) ⟨#[]⟩ 0)
  have hB : Below w.heap.size w ((w.alloc (.cells #[.int .u32 (h 0), .int .u32 (h 1), .int .u32 (h 2), .int .u32 (h 3), .int .u32 (h 4), .int .u32 (h 5), .int .u32 (h 6), .int .u32 (h 7), .string L, .int .u64 m] 102)).alloc (.cells #[.int .u32 0, .int .u32 0, .int .u32 0, .int .u32 0, .int .u32 0, .int .u32 0, .int .u32 0, .int .u32 0, .string ⟨#[]⟩, .int .u64 0] 102)) := by go_grown
  generalize ((w.alloc (.cells #[.int .u32 (h 0), .int .u32 (h 1), .int .u32 (h 2), .int .u32 (h 3), .int .u32 (h 4), .int .u32 (h 5), .int .u32 (h 6), .int .u32 (h 7), .string L, .int .u64 m] 102)).alloc (.cells #[.int .u32 0, .int .u32 0, .int .u32 0, .int .u32 0, .int .u32 0, .int .u32 0, .int .u32 0, .int .u32 0, .string ⟨#[]⟩, .int .u64 0] 102)) = W at *
  go_loopw [5] (fun v wr => ∃ (k : Nat) (t : ByteArray), 64 * k ≤ T.size ∧ v = .string t ∧ t = T.extract (64 * k) T.size ∧ Below w.heap.size w wr ∧ Arr wr w.heap.size 10 (hx (F k) L m) ∧ Arr wr (w.heap.size + 1) 10 (hx (fun _ => 0) ⟨#[]⟩ 0))
    (fun v _ => lenV v)
  case atStart => exact ⟨0, T, by omega, rfl, by simp, hB, by rw [h0]; exact A0, A1⟩
  case round =>
    clear A0 A1 hB
    obtain ⟨k, t, hk, rfl, ht, hB, A0, A1⟩ := hrel
    have tz : t.size = T.size - 64 * k := by rw [ht, ByteArray.size_extract]; omega
    have HT : Hid (t = T.extract (64 * k) T.size) := ht
    have HZ : Hid (t.size = T.size - 64 * k) := tz
    by_cases hlt : 64 ≤ t.size
    · have i64 : (64 : Int) ≤ (t.size : Int) := by omega
      have tm : (t.size : Int) ≤ 2000000 := by omega
      have c9 := fun W => C9 t k W ht (by omega)
      have hc := cut_rest T t k ht (by omega)
      have HC : Hid _ := hc
      obtain ⟨k0, k8, k9⟩ := A0.ten
      have r0 := fun ds os => cell_regrown (k0 0 (by omega)) ds os
      have r1 := fun ds os => cell_regrown (k0 1 (by omega)) ds os
      have r2 := fun ds os => cell_regrown (k0 2 (by omega)) ds os
      have r3 := fun ds os => cell_regrown (k0 3 (by omega)) ds os
      have r4 := fun ds os => cell_regrown (k0 4 (by omega)) ds os
      have r5 := fun ds os => cell_regrown (k0 5 (by omega)) ds os
      have r6 := fun ds os => cell_regrown (k0 6 (by omega)) ds os
      have r7 := fun ds os => cell_regrown (k0 7 (by omega)) ds os
      clear ht tz hc C9 hg hR k0 k8 k9
      generalize hq : F (k + 1) = q at *
      have HQ : Hid _ := hq
      clear hq
      go_wp2_with fail
      apply wp_region_plain_tail 6 2 #[true, true, true, true, true, true, false, false, false, false] #[true, true, true, true, true, true, true, true, false, false] (by kernel_rfl) (by intro c d v a w h; cases d <;> exact h) (by kernel_rfl)
      simp only [List.take_succ_cons, List.take_zero, List.drop_succ_cons, List.drop_zero]
      repeat (go_big_quiet_step (first | (go_at_call 69; exact Calls.regrown_of (c9 _))))
      refine wpQuiet_nil ⟨_, ⟨_, Or.inl ⟨rfl, fun _ => rfl⟩, ⟨_, Or.inl ⟨rfl, fun _ => rfl⟩, rfl⟩⟩, ?_⟩
      simp only [Act.put, List.setIfInBounds_toArray, List.set_cons_succ, List.set_cons_zero]
      intro w3 hw'
      obtain ⟨⟨dq, osq⟩, hw''⟩ := hw'
      have hb := below_of hw''
      clear hw'' r0 r1 r2 r3 r4 r5 r6 r7 c9
      have B0 := A0.to' hb
      have B1 := A1.to' hb
      have hB' := Bel.call hB hb
      have z := B0.z
      obtain ⟨k0, k8, k9⟩ := B0.ten
      clear A0 A1 hB hb
      go_wp2_with fail
      refine ⟨⟨k + 1, t.extract 64 t.size, by have := HZ.out; omega, rfl, HC.out, Bel.st8 hB' (Nat.le_refl _) q, by rw [HQ.out]; exact B0.st8h q, B1.st8o (by omega) q⟩, ?_⟩
      show (t.extract 64 t.size).size < t.size
      rw [ByteArray.size_extract]
      omega
    · have i64 : (t.size : Int) < 64 := by omega
      have ek : T.size / 64 = k := by omega
      rw [ek] at hg hR
      rw [← ht] at hR
      rw [← hg] at A0
      subst hR
      obtain ⟨k0, k8, k9⟩ := A0.ten
      have z0 := A0.z
      obtain ⟨j0, j8, j9⟩ := A1.ten
      have z1 := A1.z
      clear ht tz C9 HT HZ hg
      go_upto_region 7 with fail
      have B0 : Arr (wr.setCell ⟨w.heap.size, 8, none⟩ (.string R)) w.heap.size 10 (hx g R m) := (A0.set 8 (by omega) _).congr (by
        intro j hj
        have : j = 0 ∨ j = 1 ∨ j = 2 ∨ j = 3 ∨ j = 4 ∨ j = 5 ∨ j = 6 ∨ j = 7 ∨ j = 8 ∨ j = 9 := by omega
        rcases this with rfl | rfl | rfl | rfl | rfl | rfl | rfl | rfl | rfl | rfl <;> simp [hx])
      have B1 := A1.other (b' := w.heap.size) (k := 8) (by omega) (.string R)
      have hB' := Bel.st hB (b := w.heap.size) (k := 8) (Nat.le_refl _) (.string R)
      clear A0 A1 hB k0 k8 k9 z0 j0 j8 j9 z1
      generalize (wr.setCell ⟨w.heap.size, 8, none⟩ (.string R)) = W5 at *
      obtain ⟨k0, k8, k9⟩ := B0.ten
      obtain ⟨j0, j8, j9⟩ := B1.ten
      have z1 := B1.z
      clear B0 B1
      go_wp2_with fail
      refine bodyPost_ret (v := .agg #[.int .u32 (g 0), .int .u32 (g 1), .int .u32 (g 2), .int .u32 (g 3), .int .u32 (g 4), .int .u32 (g 5), .int .u32 (g 6), .int .u32 (g 7), .string R, .int .u64 m]) (by simp [results, Tryd.results54, go_sem, j0, j8, j9]) rfl ⟨rfl, ?_⟩
      go_grown
theorem rwrite_any (h : Nat → Int) (L s : ByteArray) (n : Int) (hs : s.size ≤ 1000000) (hL : L.size ≤ 1000000) (w : World) :
    Calls Tryd.prog 54 #[hv h L n, .string s] w fun e w' => e = .returned (hv (wrH h L s) (wrL L s) (wrN n s)) ∧ Below w.heap.size w w' := by
  refine rwrite_core h L s (L ++ s) n _ (fun k => (upB (L ++ s) k).foldl mixF h) hs hL rfl (by rw [IntKind.wrap_u64]; rfl) rfl (fun t k W ht hz => ?_) _ _ rfl ?_ w
  · have e : (t.extract 0 64).size = 64 := by rw [ByteArray.size_extract, ht, ByteArray.size_extract]; omega
    have := rblock_any ((upB (L ++ s) k).foldl mixF h) (t.extract 0 64) (by unfold maxLen; omega) W
    rw [if_pos e] at this
    have e2 : (upB (L ++ s) (k + 1)).foldl mixF h = mixF ((upB (L ++ s) k).foldl mixF h) (t.extract 0 64) := by
      rw [upB_succ, List.foldl_append, cut_ext _ t k ht hz]; rfl
    rw [e2]
    exact this
  · unfold wrL lefB
    congr 1
    omega
end Go.Proofs.YtmkfnfencllfnaaDoor
/- What the reference's Sum answers. -/
set_option linter.all false
set_option maxRecDepth 100000
namespace Go.Proofs.YtmkfnfencllfnaaDoor
open Go.RowKit Go.Sort
/-- The mark and z zeros. -/
def mkZ (z : Nat) : ByteArray := ⟨#[128]⟩ ++ ⟨(List.replicate z (0 : UInt8)).toArray⟩
theorem mkZ_size (z : Nat) : (mkZ z).size = z + 1 := by unfold mkZ; rw [app_size, rep_size]; show 1 + z = z + 1; omega
theorem app_list (a b : ByteArray) : (a ++ b).data.toList = a.data.toList ++ b.data.toList := by simp
theorem mkZ_succ (z : Nat) : mkZ z ++ ⟨#[0]⟩ = mkZ (z + 1) := by
  apply ba_ext
  unfold mkZ
  rw [app_list, app_list, app_list]
  show [128] ++ List.replicate z (0 : UInt8) ++ [0] = [128] ++ List.replicate (z + 1) (0 : UInt8)
  rw [List.replicate_succ', List.append_assoc]
/-- The first k bytes of a number of 64 bits, the highest first. -/
def nbL (c : Int) (k : Nat) : List Int := (List.range k).map fun j => c / 2 ^ (8 * (7 - j)) % 256
theorem nbL_succ (c : Int) (k : Nat) : nbL c (k + 1) = nbL c k ++ [c / 2 ^ (8 * (7 - k)) % 256] := by simp [nbL, List.range_succ]
theorem mkS_app (a b : List Int) : mkS (a ++ b) = mkS a ++ mkS b := by
  apply ba_ext
  rw [app_list, mkS_list, mkS_list, mkS_list, List.map_append]
theorem gby' {W w1 : World} (hb : Below W.heap.size W w1) : W.grownBy w1 none := ⟨hb.os, hb.tape, hb.output, hb.size, fun k hk _ => hb.block k hk⟩
/-- A hash is put into a block. -/
def st10 (w : World) (b : Nat) (g : Nat → Int) (L : ByteArray) (n : Int) : World := ((st8 w b g).setCell ⟨b, 8, none⟩ (.string L)).setCell ⟨b, 9, none⟩ (.int .u64 n)
theorem Arr.st10 {w : World} {b : Nat} {f : Nat → Value} (A : Arr w b 10 f) (g : Nat → Int) (L : ByteArray) (n : Int) : Arr (st10 w b g L n) b 10 (hx g L n) :=
  ((((((((((A.set 0 (by omega) _).set 1 (by omega) _).set 2 (by omega) _).set 3 (by omega) _).set 4 (by omega) _).set 5 (by omega) _).set 6 (by omega) _).set 7 (by omega) _).set 8 (by omega) _).set 9 (by omega) _).congr (by
    intro j hj
    have : j = 0 ∨ j = 1 ∨ j = 2 ∨ j = 3 ∨ j = 4 ∨ j = 5 ∨ j = 6 ∨ j = 7 ∨ j = 8 ∨ j = 9 := by omega
    rcases this with rfl | rfl | rfl | rfl | rfl | rfl | rfl | rfl | rfl | rfl <;> simp [hx])
theorem Arr.st10o {w : World} {b b' n : Nat} {f : Nat → Value} (h : Arr w b n f) (hne : b' ≠ b) (g : Nat → Int) (L : ByteArray) (m : Int) : Arr (Go.Proofs.YtmkfnfencllfnaaDoor.st10 w b' g L m) b n f := ((h.st8o hne g).other hne _).other hne _
theorem Bel.st10 {w W : World} (h : Below w.heap.size w W) {b : Nat} (hle : w.heap.size ≤ b) (g : Nat → Int) (L : ByteArray) (m : Int) : Below w.heap.size w (Go.Proofs.YtmkfnfencllfnaaDoor.st10 W b g L m) := Bel.st (Bel.st (Bel.st8 h hle g) hle _) hle _
set_option maxHeartbeats 4000000 in
theorem rsum_core (h g : Nat → Int) (L S L2 : ByteArray) (n n2 c : Int) (hL : L.size ≤ 1000000) (hc : IntKind.u64.wrap (n * 8) = c) (c0 : 0 ≤ c) (c1 : c < 18446744073709551616) (hS : S = mkS (hfL g 8)) (w : World)
    (C21 : ∀ W, Calls Tryd.prog 54 #[hv h L n, .string (mkZ (zc L) ++ mkS (nbL c 8))] W fun e w' => e = .returned (hv g L2 n2) ∧ Below W.heap.size W w') :
    Calls Tryd.prog 53 #[hv h L n] w fun e w' => e = .returned (.string S) ∧ Below w.heap.size w w' := by
  have zl : zc L < 64 := by unfold zc; omega
  have zq : zc L = (119 - L.size % 64) % 64 := rfl
  obtain ⟨i0, hi, hz0, hz1, hz2⟩ := info_parts Tryd.info5
  unfold hv at *
  go_enter Tryd.func53, Tryd.ntmps53
  go_wp2_with fail
  have A0 := Arr.new w #[.int .u32 (h 0), .int .u32 (h 1), .int .u32 (h 2), .int .u32 (h 3), .int .u32 (h 4), .int .u32 (h 5), .int .u32 (h 6), .int .u32 (h 7), .string L, .int .u64 n] 102 _ rfl _ 10 (hx_at h L n)
  have hB : Below w.heap.size w (w.alloc (.cells #[.int .u32 (h 0), .int .u32 (h 1), .int .u32 (h 2), .int .u32 (h 3), .int .u32 (h 4), .int .u32 (h 5), .int .u32 (h 6), .int .u32 (h 7), .string L, .int .u64 n] 102)) := by go_grown
  generalize (w.alloc (.cells #[.int .u32 (h 0), .int .u32 (h 1), .int .u32 (h 2), .int .u32 (h 3), .int .u32 (h 4), .int .u32 (h 5), .int .u32 (h 6), .int .u32 (h 7), .string L, .int .u64 n] 102)) = W at *
  have m0 : (⟨#[128]⟩ : ByteArray) = mkZ 0 := rfl
  rw [m0]
  clear m0
  go_loopw [4] (fun v wr => ∃ z : Nat, z ≤ zc L ∧ v = .string (mkZ z) ∧ Below w.heap.size w wr ∧ Arr wr w.heap.size 10 (hx h L n)) (fun v _ => 100 - lenV v)
  case atStart => exact ⟨0, by omega, rfl, hB, A0⟩
  case round =>
    clear A0 hB
    obtain ⟨z, hz, rfl, hB, A0⟩ := hrel
    have ms := mkZ_size z
    obtain ⟨k0, k8, k9⟩ := A0.ten
    by_cases hlt : z < zc L
    · have ne : ¬ ((L.size : Int) + ((mkZ z).size : Int)) % 64 = 56 := by rw [ms]; omega
      have HS : Hid _ := mkZ_succ z
      have HM : Hid _ := ms
      have l1 : (mkZ z).size ≤ 64 := by omega
      have HN : Hid ((mkZ (z + 1)).size = z + 2) := mkZ_size (z + 1)
      generalize mkZ z = Z at *
      clear C21 ms zq
      go_wp2_with fail
      rw [HS.out]
      refine ⟨⟨z + 1, by omega, rfl, hB, A0⟩, ?_⟩
      show 100 - (mkZ (z + 1)).size < 100 - Z.size
      have := HM.out
      have := HN.out
      omega
    · have ez : z = zc L := by omega
      subst ez
      have eq : ((L.size : Int) + ((mkZ (zc L)).size : Int)) % 64 = 56 := by rw [ms]; omega
      have l1 : (mkZ (zc L)).size ≤ 64 := by omega
      clear ms zq
      generalize mkZ (zc L) = Z at *
      generalize zc L = zz at *
      go_wp2_with fail
      go_loopw [4, 5] (fun v i wr => ∃ k : Nat, k ≤ 8 ∧ v = .string (Z ++ mkS (nbL c k)) ∧ i = .int .i64 (7 - (k : Int)) ∧ Below w.heap.size w wr ∧ Arr wr w.heap.size 10 (hx h L n)) (fun _ i _ => (RowKit.intOf i + 1).toNat)
      case atStart => exact ⟨0, by omega, by simp [nbL, mkS], by simp, hB, A0⟩
      case round =>
        clear A0 hB k0 k8 k9
        obtain ⟨k, hk, rfl, rfl, hB, A0⟩ := hrel
        have ts : (Z ++ mkS (nbL c k)).size ≤ 72 := by rw [app_size, mkS_size]; simp [nbL]; omega
        by_cases hlt : k < 8
        · obtain ⟨q, hq, hq2⟩ : ∃ q : Nat, (7 : Int) - (k : Int) = (q : Int) ∧ q = 7 - k := ⟨7 - k, by omega, rfl⟩
          rw [hq]
          have q0 : (0 : Int) ≤ (q : Int) := by omega
          have q7 : (q : Int) ≤ 7 := by omega
          have nx : (Z ++ mkS (nbL c k)) ++ mkS [c / 2 ^ (8 * q) % 256] = Z ++ mkS (nbL c (k + 1)) := by
            rw [nbL_succ, mkS_app, ← hq2]
            apply ba_ext
            simp only [app_list, List.append_assoc]
          have HN : Hid _ := nx
          have HQ : Hid ((7 : Int) - (k : Int) = (q : Int)) := hq
          have cv := convC (wr.alloc (.cells #[.int .u8 (c / 2 ^ (8 * q) % 256)] 5)) wr.heap.size 1 1 [c / 2 ^ (8 * q) % 256] rfl (news_new _ _ _)
          have s1 : (mkS [c / 2 ^ (8 * q) % 256]).size ≤ 1 := by rw [mkS_size]; simp
          generalize mkS [c / 2 ^ (8 * q) % 256] = X at *
          generalize (Z ++ mkS (nbL c k)) = T at *
          clear nx hq hq2 C21 hS
          go_wp2_with fail
          have o1 := HQ.out
          refine ⟨⟨k + 1, by omega, by rw [HN.out], ?_, Bel.al hB _, A0.al' _⟩, ?_⟩
          · congr 1; omega
          · (simp [RowKit.intOf] <;> omega)
        · have e8 : k = 8 := by omega
          have ek : (7 : Int) - ((k : Nat) : Int) = -1 := by omega
          rw [ek]
          subst e8
          clear ek
          obtain ⟨k0, k8, k9⟩ := A0.ten
          generalize (Z ++ mkS (nbL c 8)) = T at *
          go_wp2_with fail
          refine (C21 _).mono ?_
          rintro e w2 ⟨rfl, hb⟩
          have A2 := A0.to' hb
          have hB2 := Bel.call hB hb
          obtain ⟨k0, k8, k9⟩ := A2.ten
          have z2 := A2.z
          clear hb A0 hB C21
          go_upto_region 10 with fail
          have A3 := A2.st10 g L2 n2
          have hB3 := Bel.st10 hB2 (b := w.heap.size) (Nat.le_refl _) g L2 n2
          unfold Go.Proofs.YtmkfnfencllfnaaDoor.st10 Go.Proofs.YtmkfnfencllfnaaDoor.st8 at A3 hB3
          generalize ((((((((((w2.setCell ⟨w.heap.size, 0, none⟩ (.int .u32 (g 0))).setCell ⟨w.heap.size, 1, none⟩ (.int .u32 (g 1))).setCell ⟨w.heap.size, 2, none⟩ (.int .u32 (g 2))).setCell ⟨w.heap.size, 3, none⟩ (.int .u32 (g 3))).setCell ⟨w.heap.size, 4, none⟩ (.int .u32 (g 4))).setCell ⟨w.heap.size, 5, none⟩ (.int .u32 (g 5))).setCell ⟨w.heap.size, 6, none⟩ (.int .u32 (g 6))).setCell ⟨w.heap.size, 7, none⟩ (.int .u32 (g 7))).setCell ⟨w.heap.size, 8, none⟩ (.string L2)).setCell ⟨w.heap.size, 9, none⟩ (.int .u64 n2)) = W3 at *
          clear A2 hB2 k0 k8 k9 z2
          go_wp2_with fail
          go_loopw [6, 7] (fun v i wr => ∃ (k : Nat) (Lv : List Value), k ≤ 8 ∧ i = .int .i64 k ∧ wr.ownsRow (w.heap.size + 1) 5 1 v (4 * k) Lv ∧ Lv = (hfL g k).map (Value.int .u8) ∧ Below w.heap.size w wr ∧ Arr wr w.heap.size 10 (hx g L2 n2))
            (fun _ i _ => 8 - (RowKit.intOf i).toNat)
          case atStart => exact ⟨0, [], by omega, rfl, World.ownsRow_nil _ _ _ _, rfl, hB3, A3⟩
          case round =>
            clear A3 hB3
            obtain ⟨k, Lv, hk, rfl, hown, hLv, hB, A0⟩ := hrel
            by_cases hlt : k < 8
            · have k0 : (0 : Int) ≤ (k : Int) := by omega
              have k8 : (k : Int) < 8 := by omega
              have r := fun ds os => cell_regrown (A0.ten.1 k hlt) ds os
              obtain ⟨ao, cv, hv'⟩ := own_form hown
              subst hv'
              have HL : Hid ((hfL g (k + 1)).map (Value.int .u8) = Lv ++ (w4 (g k)).map (Value.int .u8)) := by
                show _ = _
                rw [hfL, List.map_append, hLv]
              have kb : 4 * k + 4 ≤ maxLen := by unfold maxLen; omega
              have kb2 : (4 * k + 4) * 1 ≤ 140737488355328 := by omega
              have HO : Hid (wr.ownsRow (w.heap.size + 1) 5 1 (.slice ao (4 * k) cv) (4 * k) Lv) := hown
              unfold w4 at HL
              generalize g k = y at *
              clear hLv hown hS
              go_wp2_with fail
              apply wp_region_head_tail 1 23 #[true, false, false, false, false, false, false, false, false, false, false, false, false, false, false, false, false, false, false, false, false, false, false, false, false, false, false] (by kernel_rfl) (by intro c d v a w h; cases d <;> exact h) (by kernel_rfl)
              · exact ⟨.slice ao (4 * k) cv, Or.inl ⟨rfl, fun _ => rfl⟩, rfl⟩
              simp only [List.take_succ_cons, List.take_zero, List.drop_succ_cons, List.drop_zero, Act.put, List.setIfInBounds_toArray, List.set_cons_succ, List.set_cons_zero]
              repeat (go_big_quiet_step (fail))
              refine wpQuiet_nil ?_
              intro w5 hw'
              obtain ⟨⟨dq, osq⟩, hw''⟩ := hw'
              have hb := below_of hw''
              clear hw'' r
              have A5 := A0.to' hb
              have hB5 := Bel.call hB hb
              have HO5 : Hid (w5.ownsRow (w.heap.size + 1) 5 1 (.slice ao (4 * k) cv) (4 * k) Lv) := World.ownsRow.kept HO.out (gby' hb) (by cases ao <;> simp [Value.ownBlock])
              have sb : ∀ ob, w.heap.size + 1 ≤ (w5.alloc ob).heap.size := fun ob => by have := A5.lt; simp; omega
              have lt5 := A5.lt
              clear HO A0 hB hb
              go_wp2_with (at_builtin; refine stopAt ?_)
              unfold Stop
              refine wpList_append_own _ rfl _ _ 47 rfl (w.heap.size + 1) 5 i0 (.int .u8 0) 1 1 Tryd.underlying47 hi hz0 hz1 hz2 rfl (by decide) _ _ _ rfl (World.ownsRow.alloc HO5.out _) ⟨_, 0, none⟩ 4 4 [.int .u8 (y / 16777216 % 256), .int .u8 (y / 65536 % 256), .int .u8 (y / 256 % 256), .int .u8 (y % 256)] rfl rfl (news_new _ _ _) (fun u hu => by simp at hu; rcases hu with rfl | rfl | rfl | rfl <;> rfl) kb kb2 (sb _) ?_
              intro v' w3 hown' hgrow3 hnil3
              have b3 : Below (w.heap.size + 1) w5 w3 := ((Below.refl _ _).alloc (by omega) _).grown hgrow3 (sb _) (fun q hq => (HO5.out.lt q hq).1)
              have A3 := A5.below b3 (by omega)
              have hB3 := hB5.trans (b3.mono (by omega))
              clear hnil3 hgrow3 b3 A5 hB5
              go_wp2_with fail
              refine ⟨⟨k + 1, _, by omega, by go_num, hown', HL.out.symm, hB3, A3⟩, by simp [RowKit.intOf]; omega⟩
            · have e : k = 8 := by omega
              subst e
              obtain ⟨q, cq, hv'⟩ := own_some hown (by omega)
              subst hv'
              subst hLv
              have cv := convC wr q (4 * 8) cq (hfL g 8) (hfL_len g _) (World.ownsRow.cells hown rfl)
              rw [← hS] at cv
              clear hown hS A0
              go_wp2_with fail
              go_ret
              exact ⟨rfl, hB⟩
/-- The eight bytes of how many bits there were, told by two words. -/
theorem nb_cw (n : Int) : nbL (n * 8 % 18446744073709551616) 8 = hfL (cw n) 2 := by
  have e : hfL (cw n) 2 = w4 (cw n 0) ++ w4 (cw n 1) := by simp [hfL]
  rw [e]
  unfold cw
  simp only [if_true, if_neg (show ¬ (1 : Nat) = 0 by omega)]
  generalize hc : n * 8 % 18446744073709551616 = c
  have c0 : 0 ≤ c := by omega
  have c1 : c < 18446744073709551616 := by omega
  simp [nbL, w4, List.range_succ]
  omega
theorem rsum_any (h : Nat → Int) (L : ByteArray) (n : Int) (hL : L.size ≤ 1000000) (w : World) :
    Calls Tryd.prog 53 #[hv h L n] w fun e w' => e = .returned (.string (sumS h L n)) ∧ Below w.heap.size w w' := by
  have wr : IntKind.u64.wrap (n * 8) = n * 8 % 18446744073709551616 := IntKind.wrap_u64 _
  have e : mkZ (zc L) ++ mkS (nbL (n * 8 % 18446744073709551616) 8) = endS L n := by rw [nb_cw]; rfl
  have z := endS_size L n
  have z2 : zc L < 64 := by unfold zc; omega
  refine rsum_core h (wrH h L (endS L n)) L _ (wrL L (endS L n)) n (wrN n (endS L n)) _ hL wr (by omega) (by omega) rfl w (fun W => ?_)
  rw [e]
  exact rwrite_any h L (endS L n) n (by omega) hL W
end Go.Proofs.YtmkfnfencllfnaaDoor
/- What the reference's Of, masked and Mac answer. -/
set_option linter.all false
set_option maxRecDepth 100000
namespace Go.Proofs.YtmkfnfencllfnaaDoor
open Go.RowKit Go.Sort
set_option maxHeartbeats 1000000 in
theorem rof_core (s S : ByteArray) (a b : Value) (w : World)
    (C17 : ∀ W, Calls Tryd.prog 55 #[] W fun e w' => e = .returned a ∧ Below W.heap.size W w')
    (C21 : ∀ W, Calls Tryd.prog 54 #[a, .string s] W fun e w' => e = .returned b ∧ Below W.heap.size W w')
    (C23 : ∀ W, Calls Tryd.prog 53 #[b] W fun e w' => e = .returned (.string S) ∧ Below W.heap.size W w') :
    Calls Tryd.prog 40 #[.string s] w fun e w' => e = .returned (.string S) ∧ Below w.heap.size w w' := by
  go_enter Tryd.func40, Tryd.ntmps40
  go_wp2_with fail
  refine (C17 _).mono ?_
  rintro e w1 ⟨rfl, hb⟩
  go_wp2_with fail
  refine (C21 _).mono ?_
  rintro e w2 ⟨rfl, hb2⟩
  have hB := Bel.call hb hb2
  clear hb hb2
  go_wp2_with fail
  refine (C23 _).mono ?_
  rintro e w3 ⟨rfl, hb⟩
  have hB' := Bel.call hB hb
  clear hb hB
  go_wp2_with fail
  go_ret
  exact ⟨rfl, hB'⟩
theorem rof_any (s : ByteArray) (hs : s.size ≤ 1000000) (w : World) : Calls Tryd.prog 40 #[.string s] w fun e w' => e = .returned (.string (ofS s)) ∧ Below w.heap.size w w' :=
  rof_core s _ _ _ w (fun W => rnew_any W) (fun W => rwrite_any bgn ⟨#[]⟩ s 0 hs (by decide) W) (fun W => rsum_any _ _ _ (by have := wrL_lt ⟨#[]⟩ s; omega) W)
theorem madeB : ∃ C : Array Value, C.size = 64 ∧ (∀ j, j < 64 → C[j]? = some (.int .u8 0)) ∧ ∀ W : World, (Instr.makeSlice 47 (.int .i64 64) (.int .i64 64)).run Tryd.prog W = .ok (.slice (some ⟨W.heap.size, 0, none⟩) 64 64) (W.alloc (.cells C 5)) := by
  obtain ⟨i0, hi, hz0, hz1, hz2⟩ := info_parts Tryd.info5
  refine ⟨madeCells (Value.int .u8 0).cells (64 * 1), by rw [size_madeCells], ?_, fun W => ?_⟩
  · intro j hj
    simp only [madeCells, Value.cells]
    rw [Array.getElem?_map, Array.getElem?_range, if_pos (by omega)]
    simp [Nat.mod_one]
  · have := run_make (P := Tryd.prog) W 47 5 i0 (.int .u8 0) Tryd.underlying47 hi hz0 .i64 .i64 64 64 (by omega) (by omega) (by rw [hz2]; omega) (by omega)
    rw [hz1] at this
    exact this
/-- What the reference puts into place j. -/
def rmB (key : ByteArray) (c : Int) (j : Nat) : Int := if j < key.size then bits .xor .u8 c (bt key j) else c
set_option maxHeartbeats 2000000 in
theorem rmasked_core (key S : ByteArray) (c : Int) (hk : key.size ≤ 1000000) (ns : List Int) (hn : ns.length = 64) (hns : ∀ j, j < 64 → ns[j]? = some (rmB key c j)) (hS : S = mkS ns) (C : Array Value) (hC : ∀ j, j < 64 → C[j]? = some (.int .u8 0)) (w : World)
    (mk : ∀ W : World, (Instr.makeSlice 47 (.int .i64 64) (.int .i64 64)).run Tryd.prog W = .ok (.slice (some ⟨W.heap.size, 0, none⟩) 64 64) (W.alloc (.cells C 5))) :
    Calls Tryd.prog 81 #[.string key, .int .u8 c] w fun e w' => e = .returned (.string S) ∧ Below w.heap.size w w' := by
  go_enter Tryd.func81, Tryd.ntmps81
  go_wp2_with fail
  have A := Arr.new w C 5 _ rfl _ 64 hC
  have hB : Below w.heap.size w (w.alloc (.cells C 5)) := by go_grown
  generalize w.alloc (.cells C 5) = W at *
  clear mk hC
  go_loopw [6] (fun i wr => ∃ k : Nat, k ≤ 64 ∧ i = .int .i64 k ∧ Below w.heap.size w wr ∧ Arr wr w.heap.size 64 (fun j => .int .u8 (if j < k then rmB key c j else 0))) (fun i _ => 64 - (RowKit.intOf i).toNat)
  case atStart => exact ⟨0, by omega, rfl, hB, A.congr (by intro j hj; rw [if_neg (by omega)])⟩
  case round =>
    clear A hB
    obtain ⟨k, hk, rfl, hB, A⟩ := hrel
    have nxt : ∀ (V : World), Arr V w.heap.size 64 (fun j => if j = k then .int .u8 (rmB key c k) else .int .u8 (if j < k then rmB key c j else 0)) → Arr V w.heap.size 64 (fun j => .int .u8 (if j < k + 1 then rmB key c j else 0)) := fun V h => h.congr (by
      intro j hj
      by_cases e : j = k
      · subst e; simp
      · simp only [if_neg e]
        by_cases e2 : j < k
        · rw [if_pos e2, if_pos (by omega)]
        · rw [if_neg e2, if_neg (by omega)])
    by_cases hlt : k < 64
    · have q0 : (0 : Int) ≤ (k : Int) := by omega
      have k64 : (k : Int) < 64 := by omega
      have r := A.c k hlt
      have z := A.z k hlt
      clear hns hn hS
      by_cases h2 : k < key.size
      · have i2 : (k : Int) < (key.size : Int) := by omega
        have I := fun W => idxS key k h2 W
        have e : rmB key c k = bits .xor .u8 c (bt key k) := by unfold rmB; rw [if_pos h2]
        rw [e] at nxt
        have B := (A.set k hlt (.int .u8 c)).set k hlt (.int .u8 (bits .xor .u8 c (bt key k)))
        have B2 := nxt _ (B.congr (by intro j hj; by_cases e : j = k <;> simp [e]))
        generalize bt key k = x at *
        clear nxt B e
        go_wp2_with fail
        exact ⟨⟨k + 1, by omega, by go_num, Bel.st (Bel.st hB (Nat.le_refl _) _) (Nat.le_refl _) _, B2⟩, by simp [RowKit.intOf]; omega⟩
      · have i2 : ¬ (k : Int) < (key.size : Int) := by omega
        have e : rmB key c k = c := by unfold rmB; rw [if_neg h2]
        rw [e] at nxt
        have B2 := nxt _ (A.set k hlt (.int .u8 c))
        clear nxt e
        go_wp2_with fail
        exact ⟨⟨k + 1, by omega, by go_num, Bel.st hB (Nat.le_refl _) _, B2⟩, by simp [RowKit.intOf]; omega⟩
    · have e : k = 64 := by omega
      subst e
      have cv := convC wr w.heap.size 64 64 ns hn (by
        intro j u hu
        rw [Addr.add_mid, Nat.zero_add]
        have hj : j < 64 := by have := (List.getElem?_eq_some_iff.1 hu).1; rw [List.length_map, hn] at this; exact this
        rw [A.c j hj, if_pos hj, ← hu, List.getElem?_map, hns j hj]
        rfl)
      rw [← hS] at cv
      clear A hS nxt
      go_wp2_with fail
      go_ret
      exact ⟨rfl, hB⟩
theorem xor_comm8 (a b : Int) : bits .xor .u8 a b = bits .xor .u8 b a := by
  show IntKind.u8.wrap ((BitVec.ofInt 8 a ^^^ BitVec.ofInt 8 b).toNat : Int) = IntKind.u8.wrap ((BitVec.ofInt 8 b ^^^ BitVec.ofInt 8 a).toNat : Int)
  rw [BitVec.xor_comm]
theorem bt_out (s : ByteArray) (j : Nat) (h : s.size ≤ j) : bt s j = 0 := by
  unfold bt
  rw [Array.getElem?_eq_none h]
  rfl
theorem rmB_eq (key : ByteArray) (c : Int) (hc : bits .xor .u8 0 c = c) (j : Nat) : bits .xor .u8 (bt key j) c = rmB key c j := by
  unfold rmB
  by_cases h : j < key.size
  · rw [if_pos h, xor_comm8]
  · rw [if_neg h, bt_out key j (by omega), hc]
theorem rmasked_any (key : ByteArray) (c : Int) (hk : key.size ≤ 1000000) (hc : bits .xor .u8 0 c = c) (w : World) :
    Calls Tryd.prog 81 #[.string key, .int .u8 c] w fun e w' => e = .returned (.string (mskS key c)) ∧ Below w.heap.size w w' := by
  obtain ⟨C, _, hC, mk⟩ := madeB
  exact rmasked_core key _ c hk (mkL key c) (by simp [mkL]) (by intro j hj; rw [← rmB_eq key c hc]; simp [mkL, hj]) rfl C hC w mk
set_option maxHeartbeats 2000000 in
theorem rmac_core (k0 key s M1 M2 D S : ByteArray) (hk : k0.size ≤ maxLen) (w : World) (hs : s.size ≤ 1000000) (h1 : M1.size = 64) (h2 : M2.size = 64) (hD : D.size = 32)
    (hc : (k0.size ≤ 64 ∧ k0 = key) ∨ (64 < k0.size ∧ ∀ W, Calls Tryd.prog 40 #[.string k0] W fun e w' => e = .returned (.string key) ∧ Below W.heap.size W w'))
    (C29 : ∀ W, Calls Tryd.prog 81 #[.string key, .int .u8 92] W fun e w' => e = .returned (.string M2) ∧ Below W.heap.size W w')
    (D29 : ∀ W, Calls Tryd.prog 81 #[.string key, .int .u8 54] W fun e w' => e = .returned (.string M1) ∧ Below W.heap.size W w')
    (C13 : ∀ W, Calls Tryd.prog 40 #[.string (M1 ++ s)] W fun e w' => e = .returned (.string D) ∧ Below W.heap.size W w')
    (D13 : ∀ W, Calls Tryd.prog 40 #[.string (M2 ++ D)] W fun e w' => e = .returned (.string S) ∧ Below W.heap.size W w') :
    Calls Tryd.prog 71 #[.string k0, .string s] w fun e w' => e = .returned (.string S) ∧ Below w.heap.size w w' := by
  unfold maxLen at hk
  go_enter Tryd.func71, Tryd.ntmps71
  rcases hc with ⟨h64, rfl⟩ | ⟨h64, CO⟩
  · have i64 : ¬ (64 : Int) < (k0.size : Int) := by omega
    go_wp2_with fail
    refine (C29 _).mono ?_
    rintro e w1 ⟨rfl, hb1⟩
    have B1 := hb1
    clear hb1
    go_wp2_with fail
    refine (D29 _).mono ?_
    rintro e w2 ⟨rfl, hb2⟩
    have B2 := Bel.call B1 hb2
    clear hb2 B1
    go_wp2_with fail
    refine (C13 _).mono ?_
    rintro e w3 ⟨rfl, hb3⟩
    have B3 := Bel.call B2 hb3
    clear hb3 B2
    go_wp2_with fail
    refine (D13 _).mono ?_
    rintro e w4 ⟨rfl, hb4⟩
    have B4 := Bel.call B3 hb4
    clear hb4 B3
    go_wp2_with fail
    go_ret
    exact ⟨rfl, B4⟩
  · have i64 : (64 : Int) < (k0.size : Int) := by omega
    go_wp2_with fail
    refine (CO _).mono ?_
    rintro e w0 ⟨rfl, hb0⟩
    go_wp2_with fail
    refine (C29 _).mono ?_
    rintro e w1 ⟨rfl, hb1⟩
    have B1 := Bel.call hb0 hb1
    clear hb0 CO
    clear hb1
    go_wp2_with fail
    refine (D29 _).mono ?_
    rintro e w2 ⟨rfl, hb2⟩
    have B2 := Bel.call B1 hb2
    clear hb2 B1
    go_wp2_with fail
    refine (C13 _).mono ?_
    rintro e w3 ⟨rfl, hb3⟩
    have B3 := Bel.call B2 hb3
    clear hb3 B2
    go_wp2_with fail
    refine (D13 _).mono ?_
    rintro e w4 ⟨rfl, hb4⟩
    have B4 := Bel.call B3 hb4
    clear hb4 B3
    go_wp2_with fail
    go_ret
    exact ⟨rfl, B4⟩
theorem macS_of (key s : ByteArray) : macS key s = ofS (mskS (kyS key) 92 ++ ofS (mskS (kyS key) 54 ++ s)) := by
  unfold macS ofS
  simp only [wrH_twice, wrL_twice, wrN_twice]
theorem rmac_any (key s : ByteArray) (hk : key.size ≤ 100000) (hs : s.size ≤ 100000) (w : World) :
    Calls Tryd.prog 71 #[.string key, .string s] w fun e w' => e = .returned (.string (macS key s)) ∧ Below w.heap.size w w' := by
  rw [macS_of]
  have e1 := mskS_size (kyS key) 54
  have e2 := mskS_size (kyS key) 92
  have ks := kyS_size key
  have a1 := app_size (mskS (kyS key) 54) s
  have a2 := app_size (mskS (kyS key) 92) (ofS (mskS (kyS key) 54 ++ s))
  have o1 := ofS_size (mskS (kyS key) 54 ++ s)
  refine rmac_core key (kyS key) s _ _ _ _ (by unfold maxLen; omega) w (by omega) e1 e2 o1 ?_ (fun W => rmasked_any _ 92 (by omega) (by decide) W) (fun W => rmasked_any _ 54 (by omega) (by decide) W) (fun W => rof_any _ (by omega) W) (fun W => rof_any _ (by omega) W)
  by_cases h : 64 < key.size
  · refine .inr ⟨h, fun W => ?_⟩
    have e : kyS key = ofS key := by unfold kyS; rw [if_pos h]
    rw [e]
    exact rof_any key (by omega) W
  · refine .inl ⟨by omega, ?_⟩
    unfold kyS; rw [if_neg h]
end Go.Proofs.YtmkfnfencllfnaaDoor
/- The reference's Expand. -/
set_option linter.all false
set_option maxRecDepth 100000
namespace Go.Proofs.YtmkfnfencllfnaaDoor
open Go.RowKit Go.Sort
theorem by1_lo (n : Int) (h0 : 0 ≤ n) (h1 : n < 256) : by1 n = mkS [n] := by unfold by1; rw [show n % 256 = n by omega]
set_option maxHeartbeats 2000000 in
theorem rexpand_core (T U : Nat → ByteArray) (prk info S : ByteArray) (hi : info.size ≤ 10000) (m : Nat) (hm : m ≤ 8160)
    (hT0 : T 0 = ⟨#[]⟩) (hT32 : ∀ k, (T (k + 1)).size = 32) (hU0 : U 0 = ⟨#[]⟩) (hU : ∀ k, U (k + 1) = U k ++ T (k + 1)) (hUs : ∀ k, (U k).size = 32 * k)
    (hS : ∀ k, m ≤ 32 * k → k ≤ 255 → (U k).extract 0 m = S)
    (C22 : ∀ k W, k < 255 → Calls Tryd.prog 71 #[.string prk, .string (T k ++ info ++ mkS [(k : Int) + 1])] W fun e w' => e = .returned (.string (T (k + 1))) ∧ Below W.heap.size W w') (w : World) :
    Calls Tryd.prog 57 #[.string prk, .string info, .int .i64 (m : Int)] w fun e w' => e = .returned (.tuple #[.string S, .int .i64 0]) ∧ Below w.heap.size w w' := by
  have i0 : (0 : Int) ≤ (m : Int) := by omega
  have i1 : (m : Int) ≤ 8160 := by omega
  go_enter Tryd.func57, Tryd.ntmps57
  go_wp2_with fail
  go_loopw [8, 9, 10] (fun o l i wr => ∃ k : Nat, 32 * k < m + 32 ∧ o = .string (U k) ∧ l = .string (T k) ∧ i = .int .i64 ((k : Int) + 1) ∧ Below w.heap.size w wr)
    (fun o _ _ _ => m - 32 * 0 - (match o with | .string s => s.size | _ => 0))
  case atStart => exact ⟨0, by omega, by rw [hU0], by rw [hT0], rfl, Below.refl _ _⟩
  case round =>
    obtain ⟨k, hk, rfl, rfl, rfl, hB⟩ := hrel
    have us := hUs k
    have tk : (T k).size ≤ 32 := by
      cases k with
      | zero => rw [hT0]; decide
      | succ k => rw [hT32]; omega
    by_cases hlt : 32 * k < m
    · have k255 : k < 255 := by omega
      have k0 : (0 : Int) ≤ (k : Int) := by omega
      have k1 : (k : Int) + 1 ≤ 255 := by omega
      have l1 : ((U k).size : Int) < (m : Int) := by omega
      have cv := convC (wr.alloc (.cells #[.int .u8 ((k : Int) + 1)] 5)) wr.heap.size 1 1 [(k : Int) + 1] rfl (news_new wr [.int .u8 ((k : Int) + 1)] 5)
      have c22 := fun W => C22 k W k255
      have bs : (mkS [(k : Int) + 1]).size = 1 := mkS_size _
      have t32 := hT32 k
      have HU : Hid (U (k + 1) = U k ++ T (k + 1)) := hU k
      have us' := hUs (k + 1)
      have HUS : Hid ((U (k + 1)).size = 32 * (k + 1)) := us'
      have HUK : Hid ((U k).size = 32 * k) := us
      obtain ⟨tn, htn⟩ : ∃ x, T (k + 1) = x := ⟨_, rfl⟩
      rw [htn] at c22 t32
      have HN : Hid (T (k + 1) = tn) := htn
      clear htn C22 hS us' hU hUs hT32
      generalize mkS [(k : Int) + 1] = bn at *
      go_wp2_with (go_at_call 71; refine (c22 _).mono ?_; rintro e w1 ⟨rfl, hb⟩)
      have e1 := HU.out
      rw [HN.out] at e1
      refine ⟨⟨k + 1, by omega, by rw [e1], by rw [HN.out], by go_num, Bel.call (Bel.al hB _) hb⟩, ?_⟩
      have z1 := HUK.out
      have z2 : (U k ++ tn).size = (U k).size + 32 := by rw [ByteArray.size_append, t32]
      show m - 32 * 0 - (U k ++ tn).size < m - 32 * 0 - (U k).size
      omega
    · have l1 : ¬ ((U k).size : Int) < (m : Int) := by omega
      have l2 : (m : Int) ≤ ((U k).size : Int) := by omega
      have HS : Hid ((U k).extract 0 m = S) := hS k (by omega) (by omega)
      have l3 : ((U k).size : Int) ≤ 10000 := by omega
      clear C22 hS hU hUs hT32
      go_wp2_with fail
      refine bodyPost_ret (v := .tuple #[.string S, .int .i64 0]) (by simp [results, Tryd.results57, go_sem]; exact HS.out) rfl ?_
      exact ⟨rfl, hB⟩
theorem rexpand_yes (prk info : ByteArray) (hp : prk.size ≤ 100000) (hi : info.size ≤ 10000) (m : Nat) (hm : m ≤ 8160) (w : World) :
    Calls Tryd.prog 57 #[.string prk, .string info, .int .i64 (m : Int)] w fun e w' => e = .returned (.tuple #[.string (expS prk info m), .int .i64 0]) ∧ Below w.heap.size w w' := by
  refine rexpand_core (tB prk info) (fun k => ctB (upT (tB prk info) k)) prk info _ hi m hm rfl (tB_size prk info) rfl (fun k => ?_) (upT_blk prk info) (fun k h1 h2 => ?_) (fun k W hk => ?_) w
  · show ctB (upT (tB prk info) (k + 1)) = _
    rw [upT_succ, ctB_snoc]
  · unfold expS allS
    exact (ctB_pre (upT_pre _ h2) m (by rw [upT_blk]; exact h1)).symm
  · have := rmac_any prk (tB prk info k ++ info ++ by1 ((k : Int) + 1)) hp (by rw [app_size, app_size, by1_size]; have := tB_le prk info k; omega) W
    rw [by1_lo _ (by omega) (by omega)] at this
    show Calls _ _ _ _ _
    rw [tB, by1_lo _ (by omega) (by omega)]
    exact this
theorem rexpand_no (prk info : ByteArray) (n : Int) (hn : n < 0 ∨ 8160 < n) (w : World) :
    Calls Tryd.prog 57 #[.string prk, .string info, .int .i64 n] w fun e w' => e = .returned (.tuple #[.string ⟨#[]⟩, .int .i64 13]) ∧ Below w.heap.size w w' := by
  rcases hn with h | h
  · go_enter Tryd.func57, Tryd.ntmps57
    go_wp2_with fail
    refine bodyPost_ret (v := .tuple #[.string ⟨#[]⟩, .int .i64 13]) (by simp [results, Tryd.results57, go_sem]) rfl ?_
    exact ⟨rfl, Below.refl _ _⟩
  · go_enter Tryd.func57, Tryd.ntmps57
    go_wp2_with fail
    refine bodyPost_ret (v := .tuple #[.string ⟨#[]⟩, .int .i64 13]) (by simp [results, Tryd.results57, go_sem]) rfl ?_
    exact ⟨rfl, Below.refl _ _⟩
theorem rexpand_any (prk info : ByteArray) (hp : prk.size ≤ 100000) (hi : info.size ≤ 10000) (n : Int) (w : World) :
    Calls Tryd.prog 57 #[.string prk, .string info, .int .i64 n] w fun e w' => e = .returned (.tuple #[.string (exS prk info n), .int .i64 (exE n)]) ∧ Below w.heap.size w w' := by
  unfold exS exE
  by_cases h : n < 0 ∨ 8160 < n
  · rw [if_pos h, if_pos h]; exact rexpand_no prk info n h w
  · rw [if_neg h, if_neg h]
    have e : ((n.toNat : Nat) : Int) = n := by omega
    have := rexpand_yes prk info hp hi n.toNat (by omega) w
    rwa [e] at this
end Go.Proofs.YtmkfnfencllfnaaDoor
/- Label and Derive of both. -/
set_option linter.all false
set_option maxRecDepth 100000
namespace Go.Proofs.YtmkfnfencllfnaaDoor
open Go.RowKit Go.Sort
theorem infS_size (l c : ByteArray) (n : Int) : (infS l c n).size ≤ 10000 := by
  rcases infE_cases l c n with ⟨h, e1, e2⟩ | ⟨a, b, h, e1, e2⟩ | ⟨a, b, p, q, e1, e2⟩
  · rw [e2]; decide
  · rw [e2]; decide
  · rw [e2]
    unfold infT
    rw [ByteArray.size_append, ByteArray.size_append, ByteArray.size_append, by1_size, by1_size, ctS_size, ctS_size, ByteArray.size_append, tls_size]
    omega
/-- What Label answers. -/
def lbE (l c : ByteArray) (n : Int) : Int := if infE l c n = 0 then exE n else infE l c n
def lbS (s l c : ByteArray) (n : Int) : ByteArray := if infE l c n = 0 then exS s (infS l c n) n else ⟨#[]⟩
theorem label_no (s l c i : ByteArray) (n e : Int) (he : e = 12 ∨ e = 13) (w : World)
    (C13 : ∀ W, Calls Tryd.prog 50 #[.string l, .string c, .int .i64 n] W fun r w' => r = .returned (.tuple #[.string i, .int .i64 e]) ∧ Below W.heap.size W w') :
    Calls Tryd.prog 35 #[.string s, .string l, .string c, .int .i64 n] w fun r w' => r = .returned (.tuple #[.string ⟨#[]⟩, .int .i64 e]) ∧ Below w.heap.size w w' := by
  have e0 : ¬ e = 0 := by omega
  go_enter Tryd.func35, Tryd.ntmps35
  go_wp2_with (go_at_call 50; refine (C13 _).mono ?_; rintro r w1 ⟨rfl, hb⟩)
  refine bodyPost_ret (v := .tuple #[.string ⟨#[]⟩, .int .i64 e]) (by simp [results, Tryd.results35, go_sem]) rfl ?_
  exact ⟨rfl, hb⟩
theorem label_yes (s l c i o : ByteArray) (n e : Int) (w : World) (hT : Tab w)
    (C13 : ∀ W, Calls Tryd.prog 50 #[.string l, .string c, .int .i64 n] W fun r w' => r = .returned (.tuple #[.string i, .int .i64 0]) ∧ Below W.heap.size W w')
    (C9 : ∀ W, Tab W → Calls Tryd.prog 51 #[.string s, .string i, .int .i64 n] W fun r w' => r = .returned (.tuple #[.string o, .int .i64 e]) ∧ Below W.heap.size W w') :
    Calls Tryd.prog 35 #[.string s, .string l, .string c, .int .i64 n] w fun r w' => r = .returned (.tuple #[.string o, .int .i64 e]) ∧ Below w.heap.size w w' := by
  go_enter Tryd.func35, Tryd.ntmps35
  go_wp2_with (first | (go_at_call 50; refine (C13 _).mono ?_; rintro r w1 ⟨rfl, hb⟩; have hT1 := hT.to hb) | (go_at_call 51; refine (C9 _ hT1).mono ?_; rintro r w2 ⟨rfl, hb2⟩))
  refine bodyPost_ret (v := .tuple #[.string o, .int .i64 e]) (by simp [results, Tryd.results35, go_sem]) rfl ?_
  exact ⟨rfl, Bel.call hb hb2⟩
theorem rlabel_no (s l c i : ByteArray) (n e : Int) (he : e = 12 ∨ e = 13) (w : World)
    (C13 : ∀ W, Calls Tryd.prog 56 #[.string l, .string c, .int .i64 n] W fun r w' => r = .returned (.tuple #[.string i, .int .i64 e]) ∧ Below W.heap.size W w') :
    Calls Tryd.prog 41 #[.string s, .string l, .string c, .int .i64 n] w fun r w' => r = .returned (.tuple #[.string ⟨#[]⟩, .int .i64 e]) ∧ Below w.heap.size w w' := by
  have e0 : ¬ e = 0 := by omega
  go_enter Tryd.func41, Tryd.ntmps41
  go_wp2_with (go_at_call 56; refine (C13 _).mono ?_; rintro r w1 ⟨rfl, hb⟩)
  refine bodyPost_ret (v := .tuple #[.string ⟨#[]⟩, .int .i64 e]) (by simp [results, Tryd.results41, go_sem]) rfl ?_
  exact ⟨rfl, hb⟩
theorem rlabel_yes (s l c i o : ByteArray) (n e : Int) (w : World)
    (C13 : ∀ W, Calls Tryd.prog 56 #[.string l, .string c, .int .i64 n] W fun r w' => r = .returned (.tuple #[.string i, .int .i64 0]) ∧ Below W.heap.size W w')
    (C9 : ∀ W, Calls Tryd.prog 57 #[.string s, .string i, .int .i64 n] W fun r w' => r = .returned (.tuple #[.string o, .int .i64 e]) ∧ Below W.heap.size W w') :
    Calls Tryd.prog 41 #[.string s, .string l, .string c, .int .i64 n] w fun r w' => r = .returned (.tuple #[.string o, .int .i64 e]) ∧ Below w.heap.size w w' := by
  go_enter Tryd.func41, Tryd.ntmps41
  go_wp2_with (first | (go_at_call 56; refine (C13 _).mono ?_; rintro r w1 ⟨rfl, hb⟩) | (go_at_call 57; refine (C9 _).mono ?_; rintro r w2 ⟨rfl, hb2⟩))
  refine bodyPost_ret (v := .tuple #[.string o, .int .i64 e]) (by simp [results, Tryd.results41, go_sem]) rfl ?_
  exact ⟨rfl, Bel.call hb hb2⟩
theorem infE_or (l c : ByteArray) (n : Int) : infE l c n = 0 ∨ (infE l c n = 12 ∨ infE l c n = 13) := by
  rcases infE_cases l c n with ⟨h, e1, e2⟩ | ⟨a, b, h, e1, e2⟩ | ⟨a, b, p, q, e1, e2⟩
  · exact .inr (.inr e1)
  · exact .inr (.inl e1)
  · exact .inl e1
theorem label_any (s l c : ByteArray) (hs : s.size ≤ 100000) (hl : l.size ≤ maxLen) (hc : c.size ≤ 100000) (n : Int) (w : World) (hT : Tab w) :
    Calls Tryd.prog 35 #[.string s, .string l, .string c, .int .i64 n] w fun r w' => r = .returned (.tuple #[.string (lbS s l c n), .int .i64 (lbE l c n)]) ∧ Below w.heap.size w w' := by
  have C := fun W => info_any l c hl (by unfold maxLen; omega) n W
  unfold lbS lbE
  rcases infE_or l c n with h | h
  · rw [if_pos h, if_pos h]
    rw [h] at C
    exact label_yes s l c _ _ n _ w hT C (fun W hW => expand_any s _ (by omega) (infS_size l c n) n W hW)
  · have h0 : ¬ infE l c n = 0 := by omega
    rw [if_neg h0, if_neg h0]
    exact label_no s l c _ n _ h w C
theorem rlabel_any (s l c : ByteArray) (hs : s.size ≤ 100000) (hl : l.size ≤ maxLen) (hc : c.size ≤ 100000) (n : Int) (w : World) :
    Calls Tryd.prog 41 #[.string s, .string l, .string c, .int .i64 n] w fun r w' => r = .returned (.tuple #[.string (lbS s l c n), .int .i64 (lbE l c n)]) ∧ Below w.heap.size w w' := by
  have C := fun W => rinfo_any l c hl (by unfold maxLen; omega) n W
  unfold lbS lbE
  rcases infE_or l c n with h | h
  · rw [if_pos h, if_pos h]
    rw [h] at C
    exact rlabel_yes s l c _ _ n _ w C (fun W => rexpand_any s _ (by omega) (infS_size l c n) n W)
  · have h0 : ¬ infE l c n = 0 := by omega
    rw [if_neg h0, if_neg h0]
    exact rlabel_no s l c _ n _ h w C
theorem derive_any (s l c : ByteArray) (hs : s.size ≤ 100000) (hl : l.size ≤ maxLen) (hc : c.size ≤ 100000) (w : World) (hT : Tab w) :
    Calls Tryd.prog 33 #[.string s, .string l, .string c] w fun r w' => r = .returned (.tuple #[.string (lbS s l c 32), .int .i64 (lbE l c 32)]) ∧ Below w.heap.size w w' := by
  have C := label_any s l c hs hl hc 32 w hT
  generalize lbS s l c 32 = S at *
  generalize lbE l c 32 = e at *
  go_enter Tryd.func33, Tryd.ntmps33
  go_wp2_with (go_at_call 35; refine C.mono ?_; rintro r w1 ⟨rfl, hb⟩)
  refine bodyPost_ret (v := .tuple #[.string S, .int .i64 e]) (by simp [results, Tryd.results33, go_sem]) rfl ?_
  exact ⟨rfl, hb⟩
theorem rderive_any (s l c : ByteArray) (hs : s.size ≤ 100000) (hl : l.size ≤ maxLen) (hc : c.size ≤ 100000) (w : World) :
    Calls Tryd.prog 39 #[.string s, .string l, .string c] w fun r w' => r = .returned (.tuple #[.string (lbS s l c 32), .int .i64 (lbE l c 32)]) ∧ Below w.heap.size w w' := by
  have C := rlabel_any s l c hs hl hc 32 w
  generalize lbS s l c 32 = S at *
  generalize lbE l c 32 = e at *
  go_enter Tryd.func39, Tryd.ntmps39
  go_wp2_with (go_at_call 41; refine C.mono ?_; rintro r w1 ⟨rfl, hb⟩)
  refine bodyPost_ret (v := .tuple #[.string S, .int .i64 e]) (by simp [results, Tryd.results39, go_sem]) rfl ?_
  exact ⟨rfl, hb⟩
end Go.Proofs.YtmkfnfencllfnaaDoor
/- sched's small functions: sized, zeros, earlySecret, derived, labelled, makerBehind. -/
set_option linter.all false
set_option maxRecDepth 100000
namespace Go.Proofs.YtmkfnfencllfnaaDoor
open Go.RowKit Go.Sort
/-- Have the first n texts 32 bytes each? -/
def szB (g : Nat → ByteArray) (n : Nat) : Bool := (List.range n).all fun j => decide ((g j).size = 32)
theorem szB_yes {g : Nat → ByteArray} {n : Nat} (h : ∀ j, j < n → (g j).size = 32) : szB g n = true := by
  unfold szB
  rw [List.all_eq_true]
  intro j hj
  simpa using h j (List.mem_range.1 hj)
theorem szB_no {g : Nat → ByteArray} {n k : Nat} (hk : k < n) (h : ¬ (g k).size = 32) : szB g n = false := by
  unfold szB
  rw [List.all_eq_false]
  exact ⟨k, List.mem_range.2 hk, by simpa using h⟩
set_option maxHeartbeats 1000000 in
theorem sized_core (g : Nat → ByteArray) (n b : Nat) (hn : n ≤ 100) (r : Bool) (hr : r = szB g n) (hg : ∀ j, j < n → (g j).size ≤ maxLen) (w : World) (hA : Arr w b n (fun j => .string (g j))) :
    Calls Tryd.prog 32 #[.slice (some ⟨b, 0, none⟩) n n] w fun e w' => e = .returned (.bool r) ∧ w' = w := by
  go_enter Tryd.func32, Tryd.ntmps32
  go_wp2_with fail
  go_loopw [7] (fun i wr => ∃ k : Nat, k ≤ n ∧ i = .int .i64 k ∧ wr = w ∧ ∀ j, j < k → (g j).size = 32) (fun i _ => n - (RowKit.intOf i).toNat)
  case atStart => exact ⟨0, by omega, rfl, rfl, fun j hj => absurd hj (by omega)⟩
  case round =>
    obtain ⟨k, hk, rfl, rfl, hs⟩ := hrel
    have k0 : (0 : Int) ≤ (k : Int) := by omega
    have n100 : (n : Int) ≤ 100 := by omega
    by_cases hlt : k < n
    · have k1 : (k : Int) < (n : Int) := by omega
      have c := hA.c k hlt
      have m := hg k hlt
      unfold maxLen at m
      by_cases h5 : (g k).size = 32
      · have s5 : ((g k).size : Int) = 32 := by omega
        have HS : Hid (∀ j, j < k + 1 → (g j).size = 32) := fun j hj => by
          by_cases e : j = k
          · rw [e]; exact h5
          · exact hs j (by omega)
        clear hs hg hA hr h5
        go_wp2_with fail
        exact ⟨⟨k + 1, by omega, by go_num, trivial, HS.out⟩, by simp [RowKit.intOf]; omega⟩
      · have s5 : ¬ ((g k).size : Int) = 32 := by omega
        have e := szB_no hlt h5
        rw [e] at hr
        subst hr
        clear hs hg hA h5
        go_wp2_with fail
        go_ret
        exact ⟨rfl, rfl⟩
    · have k1 : ¬ (k : Int) < (n : Int) := by omega
      have e := szB_yes (g := g) (n := n) (fun j hj => hs j (by omega))
      rw [e] at hr
      subst hr
      clear hs hg hA
      go_wp2_with fail
      go_ret
      exact ⟨rfl, rfl⟩
def g1 (a : ByteArray) : Nat → ByteArray := fun _ => a
def g2 (a b : ByteArray) : Nat → ByteArray
  | 0 => a
  | _ => b
theorem g1_at (a : ByteArray) (j : Nat) (hj : j < 1) : (#[.string a] : Array Value)[j]? = some (.string (g1 a j)) := by
  match j, hj with
  | 0, _ => rfl
theorem g2_at (a b : ByteArray) (j : Nat) (hj : j < 2) : (#[.string a, .string b] : Array Value)[j]? = some (.string (g2 a b j)) := by
  match j, hj with
  | 0, _ => rfl
  | 1, _ => rfl
def sz1 (a : ByteArray) : Bool := decide (a.size = 32)
def sz2 (a b : ByteArray) : Bool := decide (a.size = 32) && decide (b.size = 32)
theorem sized1 (a : ByteArray) (ha : a.size ≤ maxLen) (w : World) :
    Calls Tryd.prog 32 #[.slice (some ⟨w.heap.size, 0, none⟩) 1 1] (w.alloc (.cells #[.string a] 9)) fun e w' => e = .returned (.bool (sz1 a)) ∧ w' = w.alloc (.cells #[.string a] 9) :=
  sized_core (g1 a) 1 w.heap.size (by omega) _ (by simp [szB, sz1, List.range_succ, g1]; rfl) (fun j hj => ha) _ (Arr.new w _ 9 _ rfl _ 1 (g1_at a))
theorem sized2 (a b : ByteArray) (ha : a.size ≤ maxLen) (hb : b.size ≤ maxLen) (w : World) :
    Calls Tryd.prog 32 #[.slice (some ⟨w.heap.size, 0, none⟩) 2 2] (w.alloc (.cells #[.string a, .string b] 9)) fun e w' => e = .returned (.bool (sz2 a b)) ∧ w' = w.alloc (.cells #[.string a, .string b] 9) :=
  sized_core (g2 a b) 2 w.heap.size (by omega) _ (by simp [szB, sz2, List.range_succ, g2]) (fun j hj => by
    match j, hj with
    | 0, _ => exact ha
    | 1, _ => exact hb) _ (Arr.new w _ 9 _ rfl _ 2 (g2_at a b))
/-- 32 bytes 0. -/
def z32 : ByteArray := ⟨(List.replicate 32 (0 : UInt8)).toArray⟩
theorem z32_size : z32.size = 32 := rep_size 32
/-- A secret of a secret. -/
def dv (s l d : ByteArray) : ByteArray := lbS s l d 32
/-- Bytes of a secret. -/
def lb (s l : ByteArray) (n : Int) : ByteArray := lbS s l ⟨#[]⟩ n
/-- The early secret. -/
def ear : ByteArray := macS z32 z32
theorem ear_size : ear.size = 32 := macS_size _ _
/-- No more bytes than were asked for. -/
theorem lbS_le (s l c : ByteArray) (n : Int) (hn : n ≤ 8160) : (lbS s l c n).size ≤ 8160 := by
  unfold lbS
  by_cases h : infE l c n = 0
  · rw [if_pos h]
    unfold exS
    by_cases h2 : n < 0 ∨ 8160 < n
    · rw [if_pos h2]; decide
    · rw [if_neg h2, expS_size _ _ _ (by omega)]; omega
  · rw [if_neg h]; decide
def mkr (b d : ByteArray) : Value := .agg #[.string b, .string ⟨#[]⟩, .string ⟨#[]⟩, .string ⟨#[]⟩, .string d]
/-- The cells of a maker. -/
def mx (b c s x d : ByteArray) : Nat → Value
  | 0 => .string b
  | 1 => .string c
  | 2 => .string s
  | 3 => .string x
  | _ => .string d
theorem mx_at (b c s x d : ByteArray) (j : Nat) (hj : j < 5) : (#[.string b, .string c, .string s, .string x, .string d] : Array Value)[j]? = some (mx b c s x d j) := by
  match j, hj with
  | 0, _ => rfl
  | 1, _ => rfl
  | 2, _ => rfl
  | 3, _ => rfl
  | 4, _ => rfl
theorem Arr.five {w : World} {p : Nat} {b c s x d : ByteArray} (h : Arr w p 5 (mx b c s x d)) : (w.cell? ⟨p, 0, none⟩ = some (.string b) ∧ w.cell? ⟨p, 1, none⟩ = some (.string c) ∧ w.cell? ⟨p, 2, none⟩ = some (.string s) ∧ w.cell? ⟨p, 3, none⟩ = some (.string x) ∧ w.cell? ⟨p, 4, none⟩ = some (.string d)) ∧
    (w.frozen? ⟨p, 0, none⟩ = false ∧ w.frozen? ⟨p, 1, none⟩ = false ∧ w.frozen? ⟨p, 2, none⟩ = false ∧ w.frozen? ⟨p, 3, none⟩ = false ∧ w.frozen? ⟨p, 4, none⟩ = false) :=
  ⟨⟨h.c 0 (by omega), h.c 1 (by omega), h.c 2 (by omega), h.c 3 (by omega), h.c 4 (by omega)⟩, h.z 0 (by omega), h.z 1 (by omega), h.z 2 (by omega), h.z 3 (by omega), h.z 4 (by omega)⟩
end Go.Proofs.YtmkfnfencllfnaaDoor
/- maker.derive: a secret for each label. -/
set_option linter.all false
set_option maxRecDepth 100000
namespace Go.Proofs.YtmkfnfencllfnaaDoor
open Go.RowKit Go.Sort
theorem own_to {W W' : World} {b n s : Nat} {e : TypeId} {v : Value} {xs : List Value} (h : W.ownsRow b e s v n xs) (hb : Below W.heap.size W W') : W'.ownsRow b e s v n xs := by
  refine ⟨h.1, ?_⟩
  rcases h.2 with h2 | ⟨g, cap, cur, h1, h2, h3, h4⟩
  · exact .inl h2
  · refine .inr ⟨g, cap, cur, h1, h2, ?_, h4⟩
    have hg : g < W.heap.size := by
      rcases Nat.lt_or_ge g W.heap.size with c | c
      · exact c
      · rw [Array.getElem?_eq_none c] at h3; cases h3
    rw [hb.block g hg]; exact h3
theorem Tryd.info9 : (Tryd.prog.info? 9).map (fun i => (i.zero, i.size, i.bytes)) = some (some (.string ⟨#[]⟩), 1, 16) := by kernel_rfl
theorem own_form9 {W : World} {b n : Nat} {v : Value} {xs : List Value} (h : W.ownsRow b 9 1 v n xs) : ∃ ao c, v = .slice ao n c := by
  rcases h.2 with ⟨h, h0⟩ | ⟨g, c, _, h, _⟩
  · exact ⟨none, 0, by rw [h, h0]⟩
  · exact ⟨_, c, h⟩
theorem own_some9 {W : World} {b n : Nat} {v : Value} {xs : List Value} (h : W.ownsRow b 9 1 v n xs) (hn : n ≠ 0) : ∃ g c, v = .slice (some ⟨g, 0, none⟩) n c ∧ b ≤ g ∧ n ≤ c := by
  rcases h.2 with ⟨_, h⟩ | ⟨g, c, cur, h, h2, h3, h4⟩
  · exact absurd h hn
  · exact ⟨g, c, h, h2, h4.1⟩
def dvL (o : ByteArray → ByteArray) (g : Nat → ByteArray) (k : Nat) : List Value := (List.range k).map fun j => .string (o (g j))
theorem dvL_succ (o : ByteArray → ByteArray) (g : Nat → ByteArray) (k : Nat) : dvL o g (k + 1) = dvL o g k ++ [.string (o (g k))] := by simp [dvL, List.range_succ]
end Go.Proofs.YtmkfnfencllfnaaDoor
/- sched.Handshake. -/
set_option linter.all false
set_option maxRecDepth 100000
namespace Go.Proofs.YtmkfnfencllfnaaDoor
open Go.RowKit Go.Sort
/-- Secrets. -/
def sec (b c s x : ByteArray) : Value := .agg #[.string b, .string c, .string s, .string x]
def sx (b c s x : ByteArray) : Nat → Value
  | 0 => .string b
  | 1 => .string c
  | 2 => .string s
  | _ => .string x
theorem sx_at (b c s x : ByteArray) (j : Nat) (hj : j < 4) : (#[.string b, .string c, .string s, .string x] : Array Value)[j]? = some (sx b c s x j) := by
  match j, hj with
  | 0, _ => rfl
  | 1, _ => rfl
  | 2, _ => rfl
  | 3, _ => rfl
theorem Arr.four {w : World} {p : Nat} {b c s x : ByteArray} (h : Arr w p 4 (sx b c s x)) : (w.cell? ⟨p, 0, none⟩ = some (.string b) ∧ w.cell? ⟨p, 1, none⟩ = some (.string c) ∧ w.cell? ⟨p, 2, none⟩ = some (.string s) ∧ w.cell? ⟨p, 3, none⟩ = some (.string x)) ∧
    (w.frozen? ⟨p, 0, none⟩ = false ∧ w.frozen? ⟨p, 1, none⟩ = false ∧ w.frozen? ⟨p, 2, none⟩ = false ∧ w.frozen? ⟨p, 3, none⟩ = false) :=
  ⟨⟨h.c 0 (by omega), h.c 1 (by omega), h.c 2 (by omega), h.c 3 (by omega)⟩, h.z 0 (by omega), h.z 1 (by omega), h.z 2 (by omega), h.z 3 (by omega)⟩
abbrev eS : ByteArray := ⟨#[]⟩
def L2 (x y : ByteArray) : Nat → ByteArray := g2 x y
end Go.Proofs.YtmkfnfencllfnaaDoor
/- sched.Master. -/
set_option linter.all false
set_option maxRecDepth 100000
namespace Go.Proofs.YtmkfnfencllfnaaDoor
open Go.RowKit Go.Sort
def g3 (a b c : ByteArray) : Nat → ByteArray
  | 0 => a
  | 1 => b
  | _ => c
theorem g3_at (a b c : ByteArray) (j : Nat) (hj : j < 3) : (#[.string a, .string b, .string c] : Array Value)[j]? = some (.string (g3 a b c j)) := by
  match j, hj with
  | 0, _ => rfl
  | 1, _ => rfl
  | 2, _ => rfl
end Go.Proofs.YtmkfnfencllfnaaDoor
/- sched.Side, Finish, Export. -/
set_option linter.all false
set_option maxRecDepth 100000
namespace Go.Proofs.YtmkfnfencllfnaaDoor
open Go.RowKit Go.Sort
/-- A direction. -/
def sid (k i : ByteArray) : Value := .agg #[.string k, .string i, .int .u64 0]
def dx (k i : ByteArray) : Nat → Value
  | 0 => .string k
  | 1 => .string i
  | _ => .int .u64 0
theorem dx_at (k i : ByteArray) (j : Nat) (hj : j < 3) : (#[.string k, .string i, .int .u64 0] : Array Value)[j]? = some (dx k i j) := by
  match j, hj with
  | 0, _ => rfl
  | 1, _ => rfl
  | 2, _ => rfl
theorem Arr.three {w : World} {p : Nat} {k i : ByteArray} (h : Arr w p 3 (dx k i)) : (w.cell? ⟨p, 0, none⟩ = some (.string k) ∧ w.cell? ⟨p, 1, none⟩ = some (.string i) ∧ w.cell? ⟨p, 2, none⟩ = some (.int .u64 0)) ∧
    (w.frozen? ⟨p, 0, none⟩ = false ∧ w.frozen? ⟨p, 1, none⟩ = false ∧ w.frozen? ⟨p, 2, none⟩ = false) :=
  ⟨⟨h.c 0 (by omega), h.c 1 (by omega), h.c 2 (by omega)⟩, h.z 0 (by omega), h.z 1 (by omega), h.z 2 (by omega)⟩
set_option maxHeartbeats 2000000 in
theorem exp_no (x0 x1 x2 x3 l c : ByteArray) (n : Int) (w : World)
    (C17 : ∀ W : World, Calls Tryd.prog 32 #[.slice (some ⟨W.heap.size, 0, none⟩) 1 1] (W.alloc (.cells #[.string x3] 9)) fun e w' => e = .returned (.bool false) ∧ w' = W.alloc (.cells #[.string x3] 9)) :
    Calls Tryd.prog 15 #[sec x0 x1 x2 x3, .string l, .string c, .int .i64 n] w fun e w' => e = .returned (.tuple #[.string ⟨#[]⟩, .int .i64 10]) ∧ Below w.heap.size w w' := by
  unfold sec
  have C := C17 (w.alloc (.cells #[.string x0, .string x1, .string x2, .string x3] 30))
  rw [World.size_alloc] at C
  go_enter Tryd.func15, Tryd.ntmps15
  go_wp2_with (go_at_call 32; refine C.mono ?_; rintro e w1 ⟨rfl, rfl⟩)
  refine bodyPost_ret (v := .tuple #[.string ⟨#[]⟩, .int .i64 10]) (by simp [results, Tryd.results15, go_sem]) rfl ⟨rfl, ?_⟩
  go_grown
set_option maxHeartbeats 4000000 in
theorem exp_yes (x0 x1 x2 x3 l c E D H S : ByteArray) (n e1 e2 : Int) (V : Value) (hV : Hid (V = if e1 = 0 then .tuple #[.string S, .int .i64 e2] else .tuple #[.string ⟨#[]⟩, .int .i64 e1])) (w : World) (hT : Tab w)
    (C17 : ∀ W : World, Calls Tryd.prog 32 #[.slice (some ⟨W.heap.size, 0, none⟩) 1 1] (W.alloc (.cells #[.string x3] 9)) fun e w' => e = .returned (.bool true) ∧ w' = W.alloc (.cells #[.string x3] 9))
    (C1 : ∀ W, Tab W → Calls Tryd.prog 34 #[.string ⟨#[]⟩] W fun e w' => e = .returned (.string E) ∧ Below W.heap.size W w')
    (C2 : ∀ W, Tab W → Calls Tryd.prog 33 #[.string x3, .string l, .string E] W fun r w' => r = .returned (.tuple #[.string D, .int .i64 e1]) ∧ Below W.heap.size W w')
    (C3 : ∀ W, Tab W → Calls Tryd.prog 34 #[.string c] W fun e w' => e = .returned (.string H) ∧ Below W.heap.size W w')
    (C4 : ∀ W, Tab W → Calls Tryd.prog 35 #[.string D, .string ⟨#[101, 120, 112, 111, 114, 116, 101, 114]⟩, .string H, .int .i64 n] W fun r w' => r = .returned (.tuple #[.string S, .int .i64 e2]) ∧ Below W.heap.size W w') :
    Calls Tryd.prog 15 #[sec x0 x1 x2 x3, .string l, .string c, .int .i64 n] w fun e w' => e = .returned V ∧ Below w.heap.size w w' := by
  unfold sec
  have C := C17 (w.alloc (.cells #[.string x0, .string x1, .string x2, .string x3] 30))
  rw [World.size_alloc] at C
  go_enter Tryd.func15, Tryd.ntmps15
  go_wp2_with (go_at_call 32; refine C.mono ?_; rintro e w1 ⟨rfl, rfl⟩)
  generalize hW : World.alloc (World.alloc _ _) _ = W1
  have AX : Arr W1 w.heap.size 4 (sx x0 x1 x2 x3) := by
    rw [← hW]
    exact (Arr.new _ _ _ _ rfl _ 4 (sx_at _ _ _ _)).al' _
  have B0 : Below w.heap.size w W1 := by rw [← hW]; go_grown
  have T0 := hT.to B0
  clear hW hT C C17
  have tR := fun ds os => T0.bel (below_regrown W1 ds os)
  obtain ⟨⟨k0, k1, k2, k3⟩, y0, y1, y2, y3⟩ := AX.four
  have r3 := fun ds os => cell_regrown k3 ds os
  clear k0 k1 k2 k3 y0 y1 y2 y3
  refine wp_region_quiet_below (by kernel_rfl) (by kernel_rfl) ?_
  repeat (go_big_quiet_step (first | (go_at_call 34; exact Calls.regrown_of (C1 _ (tR _ _))) | (go_at_call 33; exact Calls.regrown_of (C2 _ (tR _ _)))))
  refine wpQuiet_nil ?_
  intro w1 hw'
  obtain ⟨⟨dq, osq⟩, hw''⟩ := hw'
  have hb := below_of hw''
  have B1 := Bel.call B0 hb
  have T1 := T0.to hb
  clear hw'' r3 tR C1 C2 hb AX T0 B0
  by_cases h : e1 = 0
  · subst h
    go_wp2_with fail
    refine (C3 _ T1).mono ?_
    rintro e w2 ⟨rfl, hb⟩
    have B2 := Bel.call B1 hb
    have T2 := T1.to hb
    clear hb C3 B1 T1
    go_wp2_with fail
    refine (C4 _ T2).mono ?_
    rintro e w3 ⟨rfl, hb⟩
    have B3 := Bel.call B2 hb
    clear hb C4 B2 T2
    go_wp2_with fail
    refine bodyPost_ret (v := .tuple #[.string S, .int .i64 e2]) (by simp [results, Tryd.results15, go_sem]) rfl ⟨by rw [hV.out]; simp, B3⟩
  · go_wp2_with fail
    refine bodyPost_ret (v := .tuple #[.string ⟨#[]⟩, .int .i64 e1]) (by simp [results, Tryd.results15, go_sem]) rfl ⟨by rw [hV.out, if_neg h], B1⟩
end Go.Proofs.YtmkfnfencllfnaaDoor
/- The reference's small functions, Handshake, Master, Side, Finish, Export. -/
set_option linter.all false
set_option maxRecDepth 100000
namespace Go.Proofs.YtmkfnfencllfnaaDoor
open Go.RowKit Go.Sort
theorem madeZ : ∃ C : Array Value, C.size = 32 ∧ (∀ j, j < 32 → C[j]? = some (.int .u8 0)) ∧ ∀ W : World, (Instr.makeSlice 47 (.int .i64 32) (.int .i64 32)).run Tryd.prog W = .ok (.slice (some ⟨W.heap.size, 0, none⟩) 32 32) (W.alloc (.cells C 5)) := by
  obtain ⟨i0, hi, hz0, hz1, hz2⟩ := info_parts Tryd.info5
  refine ⟨madeCells (Value.int .u8 0).cells (32 * 1), by rw [size_madeCells], ?_, fun W => ?_⟩
  · intro j hj
    simp only [madeCells, Value.cells]
    rw [Array.getElem?_map, Array.getElem?_range, if_pos (by omega)]
    simp [Nat.mod_one]
  · have := run_make (P := Tryd.prog) W 47 5 i0 (.int .u8 0) Tryd.underlying47 hi hz0 .i64 .i64 32 32 (by omega) (by omega) (by rw [hz2]; omega) (by omega)
    rw [hz1] at this
    exact this
theorem z32_mk : mkS (List.replicate 32 0) = z32 := by
  apply ba_ext
  rw [mkS_list]
  decide
/-- The secret behind another one, with something new. -/
def nxs (b f : ByteArray) : ByteArray := macS (dv b ⟨#[100, 101, 114, 105, 118, 101, 100]⟩ (ofS ⟨#[]⟩)) f
theorem nxs_size (b f : ByteArray) : (nxs b f).size = 32 := macS_size _ _
set_option maxHeartbeats 2000000 in
theorem rexp_no (x0 x1 x2 x3 l c : ByteArray) (n : Int) (hx : x3.size ≤ maxLen) (h : ¬ x3.size = 32) (w : World) :
    Calls Tryd.prog 17 #[sec x0 x1 x2 x3, .string l, .string c, .int .i64 n] w fun e w' => e = .returned (.tuple #[.string ⟨#[]⟩, .int .i64 10]) ∧ Below w.heap.size w w' := by
  unfold sec
  unfold maxLen at *
  have i1 : ¬ (x3.size : Int) = 32 := by omega
  go_enter Tryd.func17, Tryd.ntmps17
  go_wp2_with fail
  refine bodyPost_ret (v := .tuple #[.string ⟨#[]⟩, .int .i64 10]) (by simp [results, Tryd.results17, go_sem]) rfl ⟨rfl, ?_⟩
  go_grown
set_option maxHeartbeats 4000000 in
theorem rexp_yes (x0 x1 x2 x3 l c E D H S : ByteArray) (n e1 e2 : Int) (V : Value) (hV : Hid (V = if e1 = 0 then .tuple #[.string S, .int .i64 e2] else .tuple #[.string ⟨#[]⟩, .int .i64 e1])) (hx : x3.size = 32) (w : World)
    (C1 : ∀ W, Calls Tryd.prog 40 #[.string ⟨#[]⟩] W fun e w' => e = .returned (.string E) ∧ Below W.heap.size W w')
    (C2 : ∀ W, Calls Tryd.prog 39 #[.string x3, .string l, .string E] W fun r w' => r = .returned (.tuple #[.string D, .int .i64 e1]) ∧ Below W.heap.size W w')
    (C3 : ∀ W, Calls Tryd.prog 40 #[.string c] W fun e w' => e = .returned (.string H) ∧ Below W.heap.size W w')
    (C4 : ∀ W, Calls Tryd.prog 41 #[.string D, .string ⟨#[101, 120, 112, 111, 114, 116, 101, 114]⟩, .string H, .int .i64 n] W fun r w' => r = .returned (.tuple #[.string S, .int .i64 e2]) ∧ Below W.heap.size W w') :
    Calls Tryd.prog 17 #[sec x0 x1 x2 x3, .string l, .string c, .int .i64 n] w fun e w' => e = .returned V ∧ Below w.heap.size w w' := by
  unfold sec
  have i1 : (x3.size : Int) = 32 := by omega
  go_enter Tryd.func17, Tryd.ntmps17
  go_wp2_with fail
  generalize hW : World.alloc _ _ = W1
  have AX : Arr W1 w.heap.size 4 (sx x0 x1 x2 x3) := by
    rw [← hW]
    exact Arr.new _ _ _ _ rfl _ 4 (sx_at _ _ _ _)
  have B0 : Below w.heap.size w W1 := by rw [← hW]; go_grown
  clear hW
  obtain ⟨⟨k0, k1, k2, k3⟩, y0, y1, y2, y3⟩ := AX.four
  have r3 := fun ds os => cell_regrown k3 ds os
  clear k0 k1 k2 k3 y0 y1 y2 y3
  refine wp_region_quiet_below (by kernel_rfl) (by kernel_rfl) ?_
  repeat (go_big_quiet_step (first | (go_at_call 40; exact Calls.regrown_of (C1 _)) | (go_at_call 39; exact Calls.regrown_of (C2 _))))
  refine wpQuiet_nil ?_
  intro w1 hw'
  obtain ⟨⟨dq, osq⟩, hw''⟩ := hw'
  have hb := below_of hw''
  have B1 := Bel.call B0 hb
  clear hw'' r3 C1 C2 hb AX B0
  by_cases h : e1 = 0
  · subst h
    go_wp2_with fail
    refine (C3 _).mono ?_
    rintro e w2 ⟨rfl, hb⟩
    have B2 := Bel.call B1 hb
    clear hb C3 B1
    go_wp2_with fail
    refine (C4 _).mono ?_
    rintro e w3 ⟨rfl, hb⟩
    have B3 := Bel.call B2 hb
    clear hb C4 B2
    go_wp2_with fail
    refine bodyPost_ret (v := .tuple #[.string S, .int .i64 e2]) (by simp [results, Tryd.results17, go_sem]) rfl ⟨by rw [hV.out]; simp, B3⟩
  · go_wp2_with fail
    refine bodyPost_ret (v := .tuple #[.string ⟨#[]⟩, .int .i64 e1]) (by simp [results, Tryd.results17, go_sem]) rfl ⟨by rw [hV.out, if_neg h], B1⟩
end Go.Proofs.YtmkfnfencllfnaaDoor
/- Both sides' answers: Handshake, Master, Side, Finish, Export. -/
set_option linter.all false
set_option maxRecDepth 100000
namespace Go.Proofs.YtmkfnfencllfnaaDoor
open Go.RowKit Go.Sort
abbrev tCh : ByteArray := ⟨#[99, 32, 104, 115, 32, 116, 114, 97, 102, 102, 105, 99]⟩
abbrev tSh : ByteArray := ⟨#[115, 32, 104, 115, 32, 116, 114, 97, 102, 102, 105, 99]⟩
abbrev tCa : ByteArray := ⟨#[99, 32, 97, 112, 32, 116, 114, 97, 102, 102, 105, 99]⟩
abbrev tSa : ByteArray := ⟨#[115, 32, 97, 112, 32, 116, 114, 97, 102, 102, 105, 99]⟩
abbrev tEx : ByteArray := ⟨#[101, 120, 112, 32, 109, 97, 115, 116, 101, 114]⟩
/-- Both have 32 bytes. -/
abbrev ok2 (a b : ByteArray) : Prop := a.size = 32 ∧ b.size = 32

theorem sz2_yes {a b : ByteArray} (h : ok2 a b) : sz2 a b = true := by simp [sz2, h.1, h.2]
theorem sz2_no {a b : ByteArray} (h : ¬ ok2 a b) : sz2 a b = false := by
  rw [← Bool.not_eq_true]
  intro e
  simp only [sz2, Bool.and_eq_true, decide_eq_true_eq] at e
  exact h e
theorem sz1_yes {a : ByteArray} (h : a.size = 32) : sz1 a = true := by simp [sz1, h]
theorem sz1_no {a : ByteArray} (h : ¬ a.size = 32) : sz1 a = false := by simp [sz1, h]
/-- What Handshake answers. -/
def hE (a b : ByteArray) : Int := if ok2 a b then 0 else 10
def hB (a b : ByteArray) : ByteArray := if ok2 a b then nxs ear a else ⟨#[]⟩
def hC (a b : ByteArray) : ByteArray := if ok2 a b then dv (nxs ear a) tCh b else ⟨#[]⟩
def hS (a b : ByteArray) : ByteArray := if ok2 a b then dv (nxs ear a) tSh b else ⟨#[]⟩
/-- What Master answers. -/
def mB (a b : ByteArray) : ByteArray := if ok2 a b then nxs a z32 else ⟨#[]⟩
def mC (a b : ByteArray) : ByteArray := if ok2 a b then dv (nxs a z32) tCa b else ⟨#[]⟩
def mS (a b : ByteArray) : ByteArray := if ok2 a b then dv (nxs a z32) tSa b else ⟨#[]⟩
def mX (a b : ByteArray) : ByteArray := if ok2 a b then dv (nxs a z32) tEx b else ⟨#[]⟩
/-- What Side answers. -/
def dE (a : ByteArray) : Int := if a.size = 32 then 0 else 10
def dK (a : ByteArray) : ByteArray := if a.size = 32 then lb a ⟨#[107, 101, 121]⟩ 16 else ⟨#[]⟩
def dI (a : ByteArray) : ByteArray := if a.size = 32 then lb a ⟨#[105, 118]⟩ 12 else ⟨#[]⟩
/-- What Finish answers. -/
def fS (a b : ByteArray) : ByteArray := if ok2 a b then macS (lb a ⟨#[102, 105, 110, 105, 115, 104, 101, 100]⟩ 32) b else ⟨#[]⟩
theorem lb_le (a l : ByteArray) (n : Int) (h : n ≤ 8160) : (lb a l n).size ≤ 8160 := lbS_le a l _ n h
/-- What Export answers. -/
def xS (x l c : ByteArray) (n : Int) : ByteArray := if x.size = 32 then if lbE l (ofS ⟨#[]⟩) 32 = 0 then lbS (dv x l (ofS ⟨#[]⟩)) ⟨#[101, 120, 112, 111, 114, 116, 101, 114]⟩ (ofS c) n else ⟨#[]⟩ else ⟨#[]⟩
def xE (x l c : ByteArray) (n : Int) : Int := if x.size = 32 then if lbE l (ofS ⟨#[]⟩) 32 = 0 then lbE ⟨#[101, 120, 112, 111, 114, 116, 101, 114]⟩ (ofS c) n else lbE l (ofS ⟨#[]⟩) 32 else 10
theorem tup_if (p : Prop) [Decidable p] (a b : ByteArray) (x y : Int) : (.tuple #[.string (if p then a else b), .int .i64 (if p then x else y)] : Value) = if p then .tuple #[.string a, .int .i64 x] else .tuple #[.string b, .int .i64 y] := by
  by_cases h : p
  · rw [if_pos h, if_pos h, if_pos h]
  · rw [if_neg h, if_neg h, if_neg h]
theorem exp_any (x0 x1 x2 x3 l c : ByteArray) (n : Int) (hx : x3.size ≤ maxLen) (hl : l.size ≤ maxLen) (hc : c.size ≤ 100000) (w : World) (hT : Tab w) :
    Calls Tryd.prog 15 #[sec x0 x1 x2 x3, .string l, .string c, .int .i64 n] w fun e w' => e = .returned (.tuple #[.string (xS x3 l c n), .int .i64 (xE x3 l c n)]) ∧ Below w.heap.size w w' := by
  have C17 := fun W => sized1 x3 hx W
  unfold xS xE
  by_cases h : x3.size = 32
  · rw [if_pos h, if_pos h]
    rw [sz1_yes h] at C17
    have z := lbS_le x3 l (ofS ⟨#[]⟩) 32 (by omega)
    exact exp_yes x0 x1 x2 x3 l c _ _ _ _ n _ _ _ (tup_if _ _ _ _ _) w hT C17 (fun W hW => of_any _ (by decide) W hW) (fun W hW => derive_any x3 l _ (by omega) hl (by rw [ofS_size]; omega) W hW)
      (fun W hW => of_any c (by omega) W hW) (fun W hW => label_any _ _ _ (by omega) (by decide) (by rw [ofS_size]; omega) n W hW)
  · rw [if_neg h, if_neg h]
    rw [sz1_no h] at C17
    exact exp_no x0 x1 x2 x3 l c n w C17
theorem rexp_any (x0 x1 x2 x3 l c : ByteArray) (n : Int) (hx : x3.size ≤ maxLen) (hl : l.size ≤ maxLen) (hc : c.size ≤ 100000) (w : World) :
    Calls Tryd.prog 17 #[sec x0 x1 x2 x3, .string l, .string c, .int .i64 n] w fun e w' => e = .returned (.tuple #[.string (xS x3 l c n), .int .i64 (xE x3 l c n)]) ∧ Below w.heap.size w w' := by
  unfold xS xE
  by_cases h : x3.size = 32
  · rw [if_pos h, if_pos h]
    have z := lbS_le x3 l (ofS ⟨#[]⟩) 32 (by omega)
    exact rexp_yes x0 x1 x2 x3 l c _ _ _ _ n _ _ _ (tup_if _ _ _ _ _) h w (fun W => rof_any _ (by decide) W) (fun W => rderive_any x3 l _ (by omega) hl (by rw [ofS_size]; omega) W)
      (fun W => rof_any c (by omega) W) (fun W => rlabel_any _ _ _ (by omega) (by decide) (by rw [ofS_size]; omega) n W)
  · rw [if_neg h, if_neg h]
    exact rexp_no x0 x1 x2 x3 l c n hx h w
end Go.Proofs.YtmkfnfencllfnaaDoor
/- Export of an end of a connection, of both sides. -/
set_option linter.all false
set_option maxRecDepth 100000
namespace Go.Proofs.YtmkfnfencllfnaaDoor
open Go.RowKit Go.Shelf Go.Sort
/-- A variable is loaded, in a plain region. -/
theorem Cells.wld {L : List Value} {n : Nat} {F : Nat → Value} (c : Cells L n F) {T : TypeId} (t : Ty T n) {w : World} {b N : Nat} {G : Nat → Value} (A : Arr w b N G) (o : Nat) (ho : o + n ≤ N) (e : ∀ j, j < n → G (o + j) = F j)
    {ops : Array Oper} {rest : List Oper} {op : Oper} {a : Act} {Q : Exit → Act → World → Prop} (hgd : op.guard = none) (x : Operand) (hop : op.op = .load T x) (hx : a.eval x = .pointer (some ⟨b, o, none⟩))
    (h : wpList Tryd.prog ops Q rest (a.put op.dst (.agg L.toArray)) w) : wpList Tryd.prog ops Q (op :: rest) a w := by
  obtain ⟨d, hu, hd⟩ := t.u
  exact wpList_load_mid hgd T x hop b o hx L d (A.sub c o ho e) hu hd (by rw [c.len]; exact t.i) h
theorem tS4 : Ty 30 4 := ⟨⟨_, Tryd.underlying30, rfl⟩, by kernel_rfl⟩
theorem sec_cells (x0 x1 x2 x3 : ByteArray) : Cells [.string x0, .string x1, .string x2, .string x3] 4 (sx x0 x1 x2 x3) := ⟨rfl, fun j hj => by
  match j, hj with
  | 0, _ => rfl
  | 1, _ => rfl
  | 2, _ => rfl
  | 3, _ => rfl⟩
theorem tExp_yes (L : List Value) (F : Nat → Value) (hL : Cells L 44 F) (h0 : F 0 = .int .i64 3) (x0 x1 x2 x3 : ByteArray) (hx : ∀ j, j < 4 → F (33 + j) = sx x0 x1 x2 x3 j) (a b : ByteArray) (n : Int) (S : ByteArray) (E : Int) (w : World)
    (CX : ∀ W, Below w.heap.size w W → Calls Tryd.prog 15 #[sec x0 x1 x2 x3, .string a, .string b, .int .i64 n] W fun e w' => e = .returned (.tuple #[.string S, .int .i64 E]) ∧ Below W.heap.size W w') :
    Calls Tryd.prog 9 #[.agg L.toArray, .string a, .string b, .int .i64 n] w fun e w' => e = .returned (.tuple #[.string S, .int .i64 E]) ∧ Below w.heap.size w w' := by
  have A : Arr _ _ 44 _ := hL.new w 35 _ rfl
  have hB : Below w.heap.size w (w.alloc (.cells L.toArray 35)) := by go_grown
  have c0 := A.cv 0 (by decide) _ h0
  have CW := CX _ hB
  unfold sec at CW
  clear CX h0
  go_enter Tryd.func9, Tryd.ntmps9
  go_upto_region 1 with (fail)
  generalize w.alloc (.cells L.toArray 35) = W0 at *
  go_upto_region 3 with (fail)
  clear c0
  go_wp2_with (refine (sec_cells x0 x1 x2 x3).wld tS4 A 33 (by decide) hx (by rfl) (.tmp 13) (by rfl) (by rfl) ?_)
  refine CW.mono ?_
  rintro e w1 ⟨rfl, b1⟩
  have B1 := Bel.call hB b1
  clear CW hB b1 A hx hL
  go_wp2_with fail
  exact bodyPost_ret (v := .tuple #[.string S, .int .i64 E]) (by simp [results, Tryd.results9, go_sem]) rfl ⟨rfl, B1⟩
theorem xExp_no (L : List Value) (F : Nat → Value) (hL : Cells L 44 F) (st : Int) (h0 : F 0 = .int .i64 st) (hs : st ≠ 3) (a b : ByteArray) (n : Int) (w : World) :
    Calls Tryd.prog 12 #[.agg L.toArray, .string a, .string b, .int .i64 n] w fun e w' => e = .returned (.tuple #[.string ⟨#[]⟩, .int .i64 14]) ∧ Below w.heap.size w w' := by
  have q : (st != 3) = true := by simpa using hs
  have A : Arr _ _ 44 _ := hL.new w 35 _ rfl
  have hB : Below w.heap.size w (w.alloc (.cells L.toArray 35)) := by go_grown
  have c0 := A.cv 0 (by decide) _ h0
  clear A h0 hs
  go_enter Tryd.func12, Tryd.ntmps12
  go_upto_region 1 with (fail)
  generalize w.alloc (.cells L.toArray 35) = W0 at *
  go_wp2_with fail
  exact bodyPost_ret (v := .tuple #[.string ⟨#[]⟩, .int .i64 14]) (by simp [results, Tryd.results12, go_sem]) rfl ⟨rfl, hB⟩
theorem xExp_yes (L : List Value) (F : Nat → Value) (hL : Cells L 44 F) (h0 : F 0 = .int .i64 3) (x0 x1 x2 x3 : ByteArray) (hx : ∀ j, j < 4 → F (33 + j) = sx x0 x1 x2 x3 j) (a b : ByteArray) (n : Int) (S : ByteArray) (E : Int) (w : World)
    (CX : ∀ W, Below w.heap.size w W → Calls Tryd.prog 17 #[sec x0 x1 x2 x3, .string a, .string b, .int .i64 n] W fun e w' => e = .returned (.tuple #[.string S, .int .i64 E]) ∧ Below W.heap.size W w') :
    Calls Tryd.prog 12 #[.agg L.toArray, .string a, .string b, .int .i64 n] w fun e w' => e = .returned (.tuple #[.string S, .int .i64 E]) ∧ Below w.heap.size w w' := by
  have A : Arr _ _ 44 _ := hL.new w 35 _ rfl
  have hB : Below w.heap.size w (w.alloc (.cells L.toArray 35)) := by go_grown
  have c0 := A.cv 0 (by decide) _ h0
  have CW := CX _ hB
  unfold sec at CW
  clear CX h0
  go_enter Tryd.func12, Tryd.ntmps12
  go_upto_region 1 with (fail)
  generalize w.alloc (.cells L.toArray 35) = W0 at *
  go_upto_region 3 with (fail)
  clear c0
  go_wp2_with (refine (sec_cells x0 x1 x2 x3).wld tS4 A 33 (by decide) hx (by rfl) (.tmp 13) (by rfl) (by rfl) ?_)
  refine CW.mono ?_
  rintro e w1 ⟨rfl, b1⟩
  have B1 := Bel.call hB b1
  clear CW hB b1 A hx hL
  go_wp2_with fail
  exact bodyPost_ret (v := .tuple #[.string S, .int .i64 E]) (by simp [results, Tryd.results12, go_sem]) rfl ⟨rfl, B1⟩
end Go.Proofs.YtmkfnfencllfnaaDoor
/- The program nego: Keys of any end. -/
set_option linter.all false
set_option maxRecDepth 100000
namespace Go.Proofs.YtmkfnfencllfnaaDoor
open Go.RowKit Go.Shelf Go.Sort
set_option maxHeartbeats 8000000 in
theorem pKeys_err2 (L : List Value) (F : Nat → Value) (hL : Cells L 44 F) (n sz : Int) (P C S : ByteArray) (E : Int) (hk : ksI n = sz) (hz : sz ≠ 0) (hP : prS [0, n] = P) (p9 : P.size ≤ 1000) (hC : P ++ ⟨#[0]⟩ = C) (hE : E ≠ 0)
    (w : World) (CE : ∀ W, Below w.heap.size w W → Calls Tryd.prog 9 #[.agg L.toArray, .string exN, .string C, .int .i64 sz] W fun e w' => e = .returned (.tuple #[.string S, .int .i64 E]) ∧ Below W.heap.size W w') :
    Calls Tryd.prog 4 #[.agg L.toArray, .int .i64 n] w fun e w' => e = .returned (.tuple #[.string ⟨#[]⟩, .string ⟨#[]⟩, .int .i64 E]) ∧ Below w.heap.size w w' := by
  have CK := fun W => pKeySize_any n W
  rw [hk] at CK
  have CP := fun v (W : World) H => ppaired_any [0, n] v W H (by simp)
  rw [hP] at CP
  have q : (sz == 0) = false := by simpa using hz
  have qE : (E != 0) = true := by simpa using hE
  have A : Arr _ _ 44 _ := hL.new w 35 _ rfl
  have hB : Below w.heap.size w (w.alloc (.cells L.toArray 35)) := by go_grown
  have p0 : (P.size : Int) ≤ 1000 := by omega
  clear hk hz hP hE p9
  unfold exN at CE
  go_enter Tryd.func4, Tryd.ntmps4
  go_upto_region 1 with (fail)
  generalize w.alloc (.cells L.toArray 35) = W0 at *
  go_wp2_with fail
  refine (CK _).mono ?_
  rintro e w1 ⟨rfl, rfl⟩
  clear CK
  have A2 := Arr.al' (n := 43) A (.cells #[.string ⟨#[]⟩, .string ⟨#[]⟩] 43)
  have B2 := Bel.al hB (.cells #[.string ⟨#[]⟩, .string ⟨#[]⟩] 43)
  go_upto_region 5 with (fail)
  generalize w1.alloc (.cells #[.string ⟨#[]⟩, .string ⟨#[]⟩] 43) = w2 at *
  generalize w1.heap.size = b1 at *
  clear A hB
  go_wp2_with fail
  go_loopw [16] (fun i wr => i = .int .i64 0 ∧ Below w2.heap.size w2 wr) (fun i _ => 0)
  case atStart => exact ⟨rfl, Below.refl _ _⟩
  case round =>
    obtain ⟨rfl, hr⟩ := hrel
    have A3 : Arr _ _ 44 _ := Arr.to' (n := 43) A2 hr
    have B3 := Bel.call B2 hr
    clear A2 B2 hr
    go_upto_region 8 with (fail)
    refine wp_region_all GB (kyV L n 0 P ⟨#[0]⟩ C sz S E) (by kernel_rfl) (by kernel_rfl) (fun d => GB.drawn _ d) GB.trans (fun i v w1 w2 h _ g => kyV.st _ _ _ _ _ _ _ _ _ i v w1 w2 h g) ?_ ?_
    · intro i o ρ W hi ho hW hP hS
      have ci : i = 0 ∨ i = 1 ∨ i = 2 ∨ i = 3 ∨ i = 4 ∨ i = 5 ∨ i = 6 ∨ i = 7 ∨ i = 8 ∨ i = 9 ∨ i = 10 ∨ i = 11 ∨ i = 12 ∨ i = 13 ∨ i = 14 ∨ i = 15 := by simp only [List.length_cons, List.length_nil] at hi; omega
      have hc := hP.c
      have hf := hP.f
      rcases ci with rfl | rfl | rfl | rfl | rfl | rfl | rfl | rfl | rfl | rfl | rfl | rfl | rfl | rfl | rfl | rfl <;> cases ho
      · have h2 : ρ (.tmp 2) = .pointer (some ⟨w.heap.size, 0, none⟩) := hS 2 (by kernel_rfl)
        have AW : Arr W w.heap.size 44 F := A3.to' (n := 43) hW
        have := hL.ld tT44 AW 0 (by omega) (fun j _ => by rw [Nat.zero_add])
        exact StG.val (by unfold execOp; simp only [h2, Instr.loadAt, Instr.sureAddr, Sem.run_bind, Sem.run_pure, Result.andThen_ok, this]) (GB.refl _) rfl
      · have h1 : ρ (.tmp 1) = .int .i64 n := hS 1 (by kernel_rfl)
        exact StG.val (by simp [execOp, hc, go_sem, h1] <;> rfl) (GB.refl _) rfl
      · have h21 : ρ (.tmp 21) = .int .i64 n := hS 21 (by kernel_rfl)
        exact StG.new (w' := W.alloc (.cells #[.int .i64 0, .int .i64 n] 3)) (by simp [execOp, hc, go_sem, h21] <;> rfl) ((Below.refl _ W).alloc (Nat.le_refl _) _) ⟨W.heap.size, rfl, nls_new W [0, n]⟩
      · obtain ⟨b, h22, hN⟩ : ∃ b, ρ (.tmp 22) = .slice (some ⟨b, 0, none⟩) 2 2 ∧ Nls W (ρ (.tmp 22)) [0, n] := hS 22 (by kernel_rfl)
        rw [h22] at hN
        exact StG.callB (f := 10) (args := #[.slice (some ⟨b, 0, none⟩) 2 2]) (by simp [execOp, hc, hf, go_sem, h22] <;> rfl) (CP _ W hN) (fun _ => rfl)
      · have h9 : ρ (.tmp 9) = .int .i64 0 := hS 9 (by kernel_rfl)
        exact StG.val (by simp [execOp, hc, go_sem, h9] <;> rfl) (GB.refl _) rfl
      · have h24 : ρ (.tmp 24) = .int .i64 0 := hS 24 (by kernel_rfl)
        exact StG.val (by simp [execOp, hc, go_sem, h24] <;> rfl) (GB.refl _) rfl
      · have h25 : ρ (.tmp 25) = .int .u8 0 := hS 25 (by kernel_rfl)
        exact StG.new (w' := W.alloc (.cells #[.int .u8 0] 5)) (by simp [execOp, hc, go_sem, h25] <;> rfl) ((Below.refl _ W).alloc (Nat.le_refl _) _) ⟨W.heap.size, rfl, by simp, (Arr.new W #[Value.int .u8 0] 5 _ rfl _ 1 (at1u _)).cv 0 (by decide) _ rfl⟩
      · obtain ⟨b, h26, _, hN⟩ : ∃ b, ρ (.tmp 26) = .slice (some ⟨b, 0, none⟩) 1 1 ∧ b < W.heap.size ∧ W.cell? ⟨b, 0, none⟩ = some (.int .u8 0) := hS 26 (by kernel_rfl)
        have := conv1 W b 0 hN
        exact StG.val (by simp [execOp, hc, h26, Sem.run_bind, Sem.run_pure, this] <;> rfl) (GB.refl _) rfl
      · have h23 : ρ (.tmp 23) = .string P := hS 23 (by kernel_rfl)
        have h27 : ρ (.tmp 27) = .string ⟨#[0]⟩ := hS 27 (by kernel_rfl)
        exact StG.val (by simp [execOp, hc, go_sem, h23, h27] <;> first | omega | rfl) (GB.refl _) (congrArg Value.string hC)
      · have h7 : ρ (.tmp 7) = .int .i64 sz := hS 7 (by kernel_rfl)
        exact StG.val (by simp [execOp, hc, go_sem, h7] <;> rfl) (GB.refl _) rfl
      · have h20 : ρ (.tmp 20) = .agg L.toArray := hS 20 (by kernel_rfl)
        have h28 : ρ (.tmp 28) = .string C := hS 28 (by kernel_rfl)
        have h29 : ρ (.tmp 29) = .int .i64 sz := hS 29 (by kernel_rfl)
        exact StG.callB (f := 9) (args := #[.agg L.toArray, .string ⟨#[69, 88, 80, 79, 82, 84, 69, 82, 45, 110, 101, 116, 119, 111, 114, 107, 45, 116, 105, 109, 101, 45, 115, 101, 99, 117, 114, 105, 116, 121]⟩, .string C, .int .i64 sz]) (by simp [execOp, hc, hf, go_sem, h20, h28, h29] <;> rfl) (CE W (Bel.call B3 hW)) (fun _ => rfl)
      · have h30 : ρ (.tmp 30) = .tuple #[.string S, .int .i64 E] := hS 30 (by kernel_rfl)
        exact StG.val (by simp [execOp, hc, go_sem, h30] <;> rfl) (GB.refl _) rfl
      · have h19 : ρ (.tmp 19) = .tuple #[.string S, .int .i64 E] := hS 19 (by kernel_rfl)
        exact StG.val (by simp [execOp, hc, go_sem, h19] <;> rfl) (GB.refl _) rfl
      · have h19 : ρ (.tmp 19) = .tuple #[.string S, .int .i64 E] := hS 19 (by kernel_rfl)
        exact StG.val (by simp [execOp, hc, go_sem, h19] <;> rfl) (GB.refl _) rfl
      · have h31 : ρ (.tmp 31) = .string S := hS 31 (by kernel_rfl)
        exact StG.val (by simp [execOp, hc, go_sem, h31] <;> rfl) (GB.refl _) rfl
      · have h32 : ρ (.tmp 32) = .int .i64 E := hS 32 (by kernel_rfl)
        exact StG.val (by simp [execOp, hc, go_sem, h32] <;> rfl) (GB.refl _) rfl
    intro x W hW hV
    have h15 : x 15 = .int .i64 E := hV 15 (by decide)
    have h14 : x 14 = .string S := hV 14 (by decide)
    have B4 : Below _ w W := Bel.call B3 hW
    clear hV hW A3 B3 CP CE hC
    simp only [puts, Act.put, List.setIfInBounds_toArray, List.set_cons_succ, List.set_cons_zero, h14, h15]
    go_wp2_with fail
    exact bodyPost_ret (v := .tuple #[.string ⟨#[]⟩, .string ⟨#[]⟩, .int .i64 E]) (by simp [results, Tryd.results4, go_sem]) rfl ⟨rfl, B4⟩
/-- The two keys, k of them told. -/
def ky2 (S0 S1 : ByteArray) (k j : Nat) : Value := match k, j with
  | 0, 0 => .string ⟨#[]⟩
  | 0, 1 => .string ⟨#[]⟩
  | 1, 0 => .string S0
  | 1, 1 => .string ⟨#[]⟩
  | 2, 0 => .string S0
  | 2, 1 => .string S1
  | _, _ => undef
theorem ky2_at (S0 S1 : ByteArray) : ∀ j, j < 2 → (#[Value.string ⟨#[]⟩, .string ⟨#[]⟩] : Array Value)[j]? = some (ky2 S0 S1 0 j) := fun j hj => by
  match j, hj with
  | 0, _ => rfl
  | 1, _ => rfl
set_option maxHeartbeats 16000000 in
theorem pKeys_ok (L : List Value) (F : Nat → Value) (hL : Cells L 44 F) (n sz : Int) (P C0 C1 S0 S1 : ByteArray) (hk : ksI n = sz) (hz : sz ≠ 0) (hP : prS [0, n] = P) (p9 : P.size ≤ 1000) (hC0 : P ++ ⟨#[0]⟩ = C0) (hC1 : P ++ ⟨#[1]⟩ = C1) (w : World)
    (CE0 : ∀ W, Below w.heap.size w W → Calls Tryd.prog 9 #[.agg L.toArray, .string exN, .string C0, .int .i64 sz] W fun e w' => e = .returned (.tuple #[.string S0, .int .i64 0]) ∧ Below W.heap.size W w')
    (CE1 : ∀ W, Below w.heap.size w W → Calls Tryd.prog 9 #[.agg L.toArray, .string exN, .string C1, .int .i64 sz] W fun e w' => e = .returned (.tuple #[.string S1, .int .i64 0]) ∧ Below W.heap.size W w') :
    Calls Tryd.prog 4 #[.agg L.toArray, .int .i64 n] w fun e w' => e = .returned (.tuple #[.string S0, .string S1, .int .i64 0]) ∧ Below w.heap.size w w' := by
  have CK := fun W => pKeySize_any n W
  rw [hk] at CK
  have CP := fun v (W : World) H => ppaired_any [0, n] v W H (by simp)
  rw [hP] at CP
  have q : (sz == 0) = false := by simpa using hz
  have A : Arr _ _ 44 _ := hL.new w 35 _ rfl
  have hB : Below w.heap.size w (w.alloc (.cells L.toArray 35)) := by go_grown
  have p0 : (P.size : Int) ≤ 1000 := by omega
  clear hk hz hP p9
  unfold exN at CE0 CE1
  go_enter Tryd.func4, Tryd.ntmps4
  go_upto_region 1 with (fail)
  have lw : w.heap.size < (w.alloc (.cells L.toArray 35)).heap.size := by rw [World.size_alloc]; omega
  generalize w.alloc (.cells L.toArray 35) = W0 at *
  go_wp2_with fail
  refine (CK _).mono ?_
  rintro e w1 ⟨rfl, rfl⟩
  clear CK
  have A2 := Arr.al' (n := 43) A (.cells #[.string ⟨#[]⟩, .string ⟨#[]⟩] 43)
  have B2 := Bel.al hB (.cells #[.string ⟨#[]⟩, .string ⟨#[]⟩] 43)
  have D2 : Arr (w1.alloc (.cells #[.string ⟨#[]⟩, .string ⟨#[]⟩] 43)) w1.heap.size 2 (ky2 S0 S1 0) := Arr.new w1 #[Value.string ⟨#[]⟩, .string ⟨#[]⟩] 43 _ rfl _ 2 (ky2_at S0 S1)
  have lz : w1.heap.size + 1 = (w1.alloc (.cells #[.string ⟨#[]⟩, .string ⟨#[]⟩] 43)).heap.size := by rw [World.size_alloc]
  go_upto_region 5 with (fail)
  generalize w1.alloc (.cells #[.string ⟨#[]⟩, .string ⟨#[]⟩] 43) = w2 at *
  generalize w1.heap.size = b1 at *
  have A2w : Hid (Arr w2 w.heap.size 44 F) := A2
  have B2w : Hid (Below w.heap.size w w2) := B2
  have D2w : Hid (Arr w2 b1 2 (ky2 S0 S1 0)) := D2
  clear A hB A2 B2 D2
  go_wp2_with fail
  go_loopw [16] (fun i wr => ∃ k : Nat, k ≤ 2 ∧ i = .int .i64 (k : Int) ∧ Below w.heap.size w wr ∧ Arr wr w.heap.size 44 F ∧ Arr wr b1 2 (ky2 S0 S1 k)) (fun i _ => 2 - (RowKit.intOf i).toNat)
  case atStart => exact ⟨0, by decide, rfl, B2w.out, A2w.out, D2w.out⟩
  case round =>
    obtain ⟨k, hk, rfl, B2, A2, D2⟩ := hrel
    clear D2w A2w B2w
    rcases (show k = 0 ∨ k = 1 ∨ k = 2 by omega) with rfl | rfl | rfl
    · clear hk
      have B3 := B2
      have A3 : Arr wr w.heap.size (43 + 1) F := A2
      have D3 : Arr wr b1 (1 + 1) (ky2 S0 S1 0) := D2
      clear B2 A2 D2
      go_upto_region 8 with (fail)
      refine wp_region_all GB (kyV L n 0 P ⟨#[0]⟩ C0 sz S0 0) (by kernel_rfl) (by kernel_rfl) (fun d => GB.drawn _ d) GB.trans (fun i v w1 w2 h _ g => kyV.st _ _ _ _ _ _ _ _ _ i v w1 w2 h g) ?_ ?_
      · intro i o ρ W hi ho hW hP hS
        have ci : i = 0 ∨ i = 1 ∨ i = 2 ∨ i = 3 ∨ i = 4 ∨ i = 5 ∨ i = 6 ∨ i = 7 ∨ i = 8 ∨ i = 9 ∨ i = 10 ∨ i = 11 ∨ i = 12 ∨ i = 13 ∨ i = 14 ∨ i = 15 := by simp only [List.length_cons, List.length_nil] at hi; omega
        have hc := hP.c
        have hf := hP.f
        rcases ci with rfl | rfl | rfl | rfl | rfl | rfl | rfl | rfl | rfl | rfl | rfl | rfl | rfl | rfl | rfl | rfl <;> cases ho
        · have h2 : ρ (.tmp 2) = .pointer (some ⟨w.heap.size, 0, none⟩) := hS 2 (by kernel_rfl)
          have AW : Arr W w.heap.size 44 F := A3.to' (n := 43) hW
          have := hL.ld tT44 AW 0 (by omega) (fun j _ => by rw [Nat.zero_add])
          exact StG.val (by unfold execOp; simp only [h2, Instr.loadAt, Instr.sureAddr, Sem.run_bind, Sem.run_pure, Result.andThen_ok, this]) (GB.refl _) rfl
        · have h1 : ρ (.tmp 1) = .int .i64 n := hS 1 (by kernel_rfl)
          exact StG.val (by simp [execOp, hc, go_sem, h1] <;> rfl) (GB.refl _) rfl
        · have h21 : ρ (.tmp 21) = .int .i64 n := hS 21 (by kernel_rfl)
          exact StG.new (w' := W.alloc (.cells #[.int .i64 0, .int .i64 n] 3)) (by simp [execOp, hc, go_sem, h21] <;> rfl) ((Below.refl _ W).alloc (Nat.le_refl _) _) ⟨W.heap.size, rfl, nls_new W [0, n]⟩
        · obtain ⟨b, h22, hN⟩ : ∃ b, ρ (.tmp 22) = .slice (some ⟨b, 0, none⟩) 2 2 ∧ Nls W (ρ (.tmp 22)) [0, n] := hS 22 (by kernel_rfl)
          rw [h22] at hN
          exact StG.callB (f := 10) (args := #[.slice (some ⟨b, 0, none⟩) 2 2]) (by simp [execOp, hc, hf, go_sem, h22] <;> rfl) (CP _ W hN) (fun _ => rfl)
        · have h9 : ρ (.tmp 9) = .int .i64 0 := hS 9 (by kernel_rfl)
          exact StG.val (by simp [execOp, hc, go_sem, h9] <;> rfl) (GB.refl _) rfl
        · have h24 : ρ (.tmp 24) = .int .i64 0 := hS 24 (by kernel_rfl)
          exact StG.val (by simp [execOp, hc, go_sem, h24] <;> rfl) (GB.refl _) rfl
        · have h25 : ρ (.tmp 25) = .int .u8 0 := hS 25 (by kernel_rfl)
          exact StG.new (w' := W.alloc (.cells #[.int .u8 0] 5)) (by simp [execOp, hc, go_sem, h25] <;> rfl) ((Below.refl _ W).alloc (Nat.le_refl _) _) ⟨W.heap.size, rfl, by simp, (Arr.new W #[Value.int .u8 0] 5 _ rfl _ 1 (at1u _)).cv 0 (by decide) _ rfl⟩
        · obtain ⟨b, h26, _, hN⟩ : ∃ b, ρ (.tmp 26) = .slice (some ⟨b, 0, none⟩) 1 1 ∧ b < W.heap.size ∧ W.cell? ⟨b, 0, none⟩ = some (.int .u8 0) := hS 26 (by kernel_rfl)
          have := conv1 W b 0 hN
          exact StG.val (by simp [execOp, hc, h26, Sem.run_bind, Sem.run_pure, this] <;> rfl) (GB.refl _) rfl
        · have h23 : ρ (.tmp 23) = .string P := hS 23 (by kernel_rfl)
          have h27 : ρ (.tmp 27) = .string ⟨#[0]⟩ := hS 27 (by kernel_rfl)
          exact StG.val (by simp [execOp, hc, go_sem, h23, h27] <;> first | omega | rfl) (GB.refl _) (congrArg Value.string hC0)
        · have h7 : ρ (.tmp 7) = .int .i64 sz := hS 7 (by kernel_rfl)
          exact StG.val (by simp [execOp, hc, go_sem, h7] <;> rfl) (GB.refl _) rfl
        · have h20 : ρ (.tmp 20) = .agg L.toArray := hS 20 (by kernel_rfl)
          have h28 : ρ (.tmp 28) = .string C0 := hS 28 (by kernel_rfl)
          have h29 : ρ (.tmp 29) = .int .i64 sz := hS 29 (by kernel_rfl)
          exact StG.callB (f := 9) (args := #[.agg L.toArray, .string ⟨#[69, 88, 80, 79, 82, 84, 69, 82, 45, 110, 101, 116, 119, 111, 114, 107, 45, 116, 105, 109, 101, 45, 115, 101, 99, 117, 114, 105, 116, 121]⟩, .string C0, .int .i64 sz]) (by simp [execOp, hc, hf, go_sem, h20, h28, h29] <;> rfl) (CE0 W (Bel.call B3 hW)) (fun _ => rfl)
        · have h30 : ρ (.tmp 30) = .tuple #[.string S0, .int .i64 0] := hS 30 (by kernel_rfl)
          exact StG.val (by simp [execOp, hc, go_sem, h30] <;> rfl) (GB.refl _) rfl
        · have h19 : ρ (.tmp 19) = .tuple #[.string S0, .int .i64 0] := hS 19 (by kernel_rfl)
          exact StG.val (by simp [execOp, hc, go_sem, h19] <;> rfl) (GB.refl _) rfl
        · have h19 : ρ (.tmp 19) = .tuple #[.string S0, .int .i64 0] := hS 19 (by kernel_rfl)
          exact StG.val (by simp [execOp, hc, go_sem, h19] <;> rfl) (GB.refl _) rfl
        · have h31 : ρ (.tmp 31) = .string S0 := hS 31 (by kernel_rfl)
          exact StG.val (by simp [execOp, hc, go_sem, h31] <;> rfl) (GB.refl _) rfl
        · have h32 : ρ (.tmp 32) = .int .i64 0 := hS 32 (by kernel_rfl)
          exact StG.val (by simp [execOp, hc, go_sem, h32] <;> rfl) (GB.refl _) rfl

      intro x W hW hV
      have h15 : x 15 = .int .i64 0 := hV 15 (by decide)
      have h14 : x 14 = .string S0 := hV 14 (by decide)
      have D4 : Arr W b1 (1 + 1) (ky2 S0 S1 0) := D3.to' (n := 1) hW
      have A4 : Arr W w.heap.size (43 + 1) F := A3.to' (n := 43) hW
      have B4 : Below w.heap.size w W := Bel.call B3 hW
      have v0 := D4.cv 0 (by decide) (.string ⟨#[]⟩) rfl
      have z0 := D4.z 0 (by decide)
      have lb : b1 < W.heap.size := Arr.lt (n := 1) D4
      clear hV hW A3 B3 CP CE0 CE1 hC0 hC1 D3 hL
      simp only [puts, Act.put, List.setIfInBounds_toArray, List.set_cons_succ, List.set_cons_zero, h14, h15]
      have D5 : Hid (Arr (W.setCell ⟨b1, 0, none⟩ (.string S0)) b1 2 (ky2 S0 S1 1)) := (D4.set 0 (by decide) (.string S0)).congr fun j hj => by
        match j, hj with
        | 0, _ => rfl
        | 1, _ => rfl
      have A5 : Hid (Arr (W.setCell ⟨b1, 0, none⟩ (.string S0)) w.heap.size 44 F) := A4.other (b' := b1) (by omega) _
      have B5 : Hid (Below w.heap.size w (W.setCell ⟨b1, 0, none⟩ (.string S0))) := Bel.st B4 (by show w.heap.size ≤ b1; omega) _
      clear D4 A4 B4
      go_wp2_with fail
      exact ⟨⟨1, by decide, rfl, B5.out, A5.out, D5.out⟩, by decide⟩
    · clear hk
      have B3 := B2
      have A3 : Arr wr w.heap.size (43 + 1) F := A2
      have D3 : Arr wr b1 (1 + 1) (ky2 S0 S1 1) := D2
      clear B2 A2 D2
      go_upto_region 8 with (fail)
      refine wp_region_all GB (kyV L n 1 P ⟨#[1]⟩ C1 sz S1 0) (by kernel_rfl) (by kernel_rfl) (fun d => GB.drawn _ d) GB.trans (fun i v w1 w2 h _ g => kyV.st _ _ _ _ _ _ _ _ _ i v w1 w2 h g) ?_ ?_
      · intro i o ρ W hi ho hW hP hS
        have ci : i = 0 ∨ i = 1 ∨ i = 2 ∨ i = 3 ∨ i = 4 ∨ i = 5 ∨ i = 6 ∨ i = 7 ∨ i = 8 ∨ i = 9 ∨ i = 10 ∨ i = 11 ∨ i = 12 ∨ i = 13 ∨ i = 14 ∨ i = 15 := by simp only [List.length_cons, List.length_nil] at hi; omega
        have hc := hP.c
        have hf := hP.f
        rcases ci with rfl | rfl | rfl | rfl | rfl | rfl | rfl | rfl | rfl | rfl | rfl | rfl | rfl | rfl | rfl | rfl <;> cases ho
        · have h2 : ρ (.tmp 2) = .pointer (some ⟨w.heap.size, 0, none⟩) := hS 2 (by kernel_rfl)
          have AW : Arr W w.heap.size 44 F := A3.to' (n := 43) hW
          have := hL.ld tT44 AW 0 (by omega) (fun j _ => by rw [Nat.zero_add])
          exact StG.val (by unfold execOp; simp only [h2, Instr.loadAt, Instr.sureAddr, Sem.run_bind, Sem.run_pure, Result.andThen_ok, this]) (GB.refl _) rfl
        · have h1 : ρ (.tmp 1) = .int .i64 n := hS 1 (by kernel_rfl)
          exact StG.val (by simp [execOp, hc, go_sem, h1] <;> rfl) (GB.refl _) rfl
        · have h21 : ρ (.tmp 21) = .int .i64 n := hS 21 (by kernel_rfl)
          exact StG.new (w' := W.alloc (.cells #[.int .i64 0, .int .i64 n] 3)) (by simp [execOp, hc, go_sem, h21] <;> rfl) ((Below.refl _ W).alloc (Nat.le_refl _) _) ⟨W.heap.size, rfl, nls_new W [0, n]⟩
        · obtain ⟨b, h22, hN⟩ : ∃ b, ρ (.tmp 22) = .slice (some ⟨b, 0, none⟩) 2 2 ∧ Nls W (ρ (.tmp 22)) [0, n] := hS 22 (by kernel_rfl)
          rw [h22] at hN
          exact StG.callB (f := 10) (args := #[.slice (some ⟨b, 0, none⟩) 2 2]) (by simp [execOp, hc, hf, go_sem, h22] <;> rfl) (CP _ W hN) (fun _ => rfl)
        · have h9 : ρ (.tmp 9) = .int .i64 1 := hS 9 (by kernel_rfl)
          exact StG.val (by simp [execOp, hc, go_sem, h9] <;> rfl) (GB.refl _) rfl
        · have h24 : ρ (.tmp 24) = .int .i64 1 := hS 24 (by kernel_rfl)
          exact StG.val (by simp [execOp, hc, go_sem, h24] <;> rfl) (GB.refl _) rfl
        · have h25 : ρ (.tmp 25) = .int .u8 1 := hS 25 (by kernel_rfl)
          exact StG.new (w' := W.alloc (.cells #[.int .u8 1] 5)) (by simp [execOp, hc, go_sem, h25] <;> rfl) ((Below.refl _ W).alloc (Nat.le_refl _) _) ⟨W.heap.size, rfl, by simp, (Arr.new W #[Value.int .u8 1] 5 _ rfl _ 1 (at1u _)).cv 0 (by decide) _ rfl⟩
        · obtain ⟨b, h26, _, hN⟩ : ∃ b, ρ (.tmp 26) = .slice (some ⟨b, 0, none⟩) 1 1 ∧ b < W.heap.size ∧ W.cell? ⟨b, 0, none⟩ = some (.int .u8 1) := hS 26 (by kernel_rfl)
          have := conv1 W b 1 hN
          exact StG.val (by simp [execOp, hc, h26, Sem.run_bind, Sem.run_pure, this] <;> rfl) (GB.refl _) rfl
        · have h23 : ρ (.tmp 23) = .string P := hS 23 (by kernel_rfl)
          have h27 : ρ (.tmp 27) = .string ⟨#[1]⟩ := hS 27 (by kernel_rfl)
          exact StG.val (by simp [execOp, hc, go_sem, h23, h27] <;> first | omega | rfl) (GB.refl _) (congrArg Value.string hC1)
        · have h7 : ρ (.tmp 7) = .int .i64 sz := hS 7 (by kernel_rfl)
          exact StG.val (by simp [execOp, hc, go_sem, h7] <;> rfl) (GB.refl _) rfl
        · have h20 : ρ (.tmp 20) = .agg L.toArray := hS 20 (by kernel_rfl)
          have h28 : ρ (.tmp 28) = .string C1 := hS 28 (by kernel_rfl)
          have h29 : ρ (.tmp 29) = .int .i64 sz := hS 29 (by kernel_rfl)
          exact StG.callB (f := 9) (args := #[.agg L.toArray, .string ⟨#[69, 88, 80, 79, 82, 84, 69, 82, 45, 110, 101, 116, 119, 111, 114, 107, 45, 116, 105, 109, 101, 45, 115, 101, 99, 117, 114, 105, 116, 121]⟩, .string C1, .int .i64 sz]) (by simp [execOp, hc, hf, go_sem, h20, h28, h29] <;> rfl) (CE1 W (Bel.call B3 hW)) (fun _ => rfl)
        · have h30 : ρ (.tmp 30) = .tuple #[.string S1, .int .i64 0] := hS 30 (by kernel_rfl)
          exact StG.val (by simp [execOp, hc, go_sem, h30] <;> rfl) (GB.refl _) rfl
        · have h19 : ρ (.tmp 19) = .tuple #[.string S1, .int .i64 0] := hS 19 (by kernel_rfl)
          exact StG.val (by simp [execOp, hc, go_sem, h19] <;> rfl) (GB.refl _) rfl
        · have h19 : ρ (.tmp 19) = .tuple #[.string S1, .int .i64 0] := hS 19 (by kernel_rfl)
          exact StG.val (by simp [execOp, hc, go_sem, h19] <;> rfl) (GB.refl _) rfl
        · have h31 : ρ (.tmp 31) = .string S1 := hS 31 (by kernel_rfl)
          exact StG.val (by simp [execOp, hc, go_sem, h31] <;> rfl) (GB.refl _) rfl
        · have h32 : ρ (.tmp 32) = .int .i64 0 := hS 32 (by kernel_rfl)
          exact StG.val (by simp [execOp, hc, go_sem, h32] <;> rfl) (GB.refl _) rfl

      intro x W hW hV
      have h15 : x 15 = .int .i64 0 := hV 15 (by decide)
      have h14 : x 14 = .string S1 := hV 14 (by decide)
      have D4 : Arr W b1 (1 + 1) (ky2 S0 S1 1) := D3.to' (n := 1) hW
      have A4 : Arr W w.heap.size (43 + 1) F := A3.to' (n := 43) hW
      have B4 : Below w.heap.size w W := Bel.call B3 hW
      have v0 := D4.cv 1 (by decide) (.string ⟨#[]⟩) rfl
      have z0 := D4.z 1 (by decide)
      have lb : b1 < W.heap.size := Arr.lt (n := 1) D4
      clear hV hW A3 B3 CP CE0 CE1 hC0 hC1 D3 hL
      simp only [puts, Act.put, List.setIfInBounds_toArray, List.set_cons_succ, List.set_cons_zero, h14, h15]
      have D5 : Hid (Arr (W.setCell ⟨b1, 1, none⟩ (.string S1)) b1 2 (ky2 S0 S1 2)) := (D4.set 1 (by decide) (.string S1)).congr fun j hj => by
        match j, hj with
        | 0, _ => rfl
        | 1, _ => rfl
      have A5 : Hid (Arr (W.setCell ⟨b1, 1, none⟩ (.string S1)) w.heap.size 44 F) := A4.other (b' := b1) (by omega) _
      have B5 : Hid (Below w.heap.size w (W.setCell ⟨b1, 1, none⟩ (.string S1))) := Bel.st B4 (by show w.heap.size ≤ b1; omega) _
      clear D4 A4 B4
      go_wp2_with fail
      exact ⟨⟨2, by decide, rfl, B5.out, A5.out, D5.out⟩, by decide⟩
    · have D3 : Arr wr b1 (1 + 1) (ky2 S0 S1 2) := D2
      have BF : Hid (Below w.heap.size w wr) := B2
      have r0 := fun ds os => cell_regrown (D3.cv 0 (by decide) (.string S0) rfl) ds os
      have r1 := fun ds os => cell_regrown (D3.cv 1 (by decide) (.string S1) rfl) ds os
      clear A2 B2 D2 D3 CP CE0 CE1 hC0 hC1 hL hk
      go_upto_region 13 with (fail)
      refine wp_region_quiet_below (by kernel_rfl) (by kernel_rfl) ?_
      repeat (go_big_quiet_step (fail))
      refine wpQuiet_nil ?_
      intro w3 hw'
      obtain ⟨⟨dq, osq⟩, hw''⟩ := hw'
      have hb3 := below_of hw''
      clear hw''
      go_wp2_with fail
      exact bodyPost_ret (v := .tuple #[.string S0, .string S1, .int .i64 0]) (by simp [results, Tryd.results4, go_sem]) rfl ⟨rfl, Bel.call BF.out hb3⟩
end Go.Proofs.YtmkfnfencllfnaaDoor
/- The reference's Keys; the program's of no way of sealing. -/
set_option linter.all false
set_option maxRecDepth 100000
namespace Go.Proofs.YtmkfnfencllfnaaDoor
open Go.RowKit Go.Shelf Go.Sort
set_option maxHeartbeats 8000000 in
theorem pKeys_z (L : List Value) (F : Nat → Value) (hL : Cells L 44 F) (n : Int) (hk : ksI n = 0) (w : World) :
    Calls Tryd.prog 4 #[.agg L.toArray, .int .i64 n] w fun e w' => e = .returned (.tuple #[.string ⟨#[]⟩, .string ⟨#[]⟩, .int .i64 13]) ∧ Below w.heap.size w w' := by
  have CK := fun W => pKeySize_any n W
  rw [hk] at CK
  have hB : Below w.heap.size w (w.alloc (.cells L.toArray 35)) := by go_grown
  go_enter Tryd.func4, Tryd.ntmps4
  go_upto_region 1 with (fail)
  generalize w.alloc (.cells L.toArray 35) = W0 at *
  go_wp2_with fail
  refine (CK _).mono ?_
  rintro e w1 ⟨rfl, rfl⟩
  clear CK
  go_wp2_with fail
  exact bodyPost_ret (v := .tuple #[.string ⟨#[]⟩, .string ⟨#[]⟩, .int .i64 13]) (by simp [results, Tryd.results4, go_sem]) rfl ⟨rfl, hB⟩
set_option maxHeartbeats 8000000 in
theorem xKeys_z (L : List Value) (F : Nat → Value) (hL : Cells L 44 F) (n : Int) (hk : ksI n = 0) (w : World) :
    Calls Tryd.prog 5 #[.agg L.toArray, .int .i64 n] w fun e w' => e = .returned (.tuple #[.string ⟨#[]⟩, .string ⟨#[]⟩, .int .i64 13]) ∧ Below w.heap.size w w' := by
  have CK := fun W => nKeySize_any n W
  rw [hk] at CK
  have hB : Below w.heap.size w (w.alloc (.cells L.toArray 35)) := by go_grown
  go_enter Tryd.func5, Tryd.ntmps5
  go_upto_region 1 with (fail)
  generalize w.alloc (.cells L.toArray 35) = W0 at *
  go_wp2_with fail
  refine (CK _).mono ?_
  rintro e w1 ⟨rfl, rfl⟩
  clear CK
  go_wp2_with fail
  exact bodyPost_ret (v := .tuple #[.string ⟨#[]⟩, .string ⟨#[]⟩, .int .i64 13]) (by simp [results, Tryd.results5, go_sem]) rfl ⟨rfl, hB⟩
set_option maxHeartbeats 8000000 in
theorem xKeys_err (L : List Value) (F : Nat → Value) (hL : Cells L 44 F) (n sz : Int) (h0 : 0 ≤ n) (h1 : n ≤ 65535) (T S0 : ByteArray) (E : Int) (hk : ksI n = sz) (hz : sz ≠ 0) (hT : tw n = T) (t9 : T.size ≤ 1000) (hE : E ≠ 0) (w : World)
    (CE0 : ∀ W, Below w.heap.size w W → Calls Tryd.prog 12 #[.agg L.toArray, .string exN, .string ((⟨#[0, 0]⟩ ++ T) ++ ⟨#[0]⟩), .int .i64 sz] W fun e w' => e = .returned (.tuple #[.string S0, .int .i64 E]) ∧ Below W.heap.size W w') :
    Calls Tryd.prog 5 #[.agg L.toArray, .int .i64 n] w fun e w' => e = .returned (.tuple #[.string ⟨#[]⟩, .string ⟨#[]⟩, .int .i64 E]) ∧ Below w.heap.size w w' := by
  have qE : (E != 0) = true := by simpa using hE
  have CK := fun W => nKeySize_any n W
  rw [hk] at CK
  have CT := fun W => ntwo_any n h0 h1 W
  rw [hT] at CT
  have q : (sz == 0) = false := by simpa using hz
  have A : Arr _ _ 44 _ := hL.new w 35 _ rfl
  have hB : Below w.heap.size w (w.alloc (.cells L.toArray 35)) := by go_grown
  have p0 : (T.size : Int) ≤ 1000 := by omega
  clear hk hz t9 hT
  unfold exN at CE0
  go_enter Tryd.func5, Tryd.ntmps5
  go_upto_region 1 with (fail)
  generalize w.alloc (.cells L.toArray 35) = W0 at *
  go_wp2_with fail
  refine (CK _).mono ?_
  rintro e w1 ⟨rfl, rfl⟩
  clear CK
  go_wp2_with fail
  refine (CT _).mono ?_
  rintro e w2 ⟨rfl, b2⟩
  have B2 := Bel.call hB b2
  have A2 : Arr _ _ (43 + 1) _ := A.to' (n := 43) b2
  clear CT hB b2 A
  go_wp2_with (refine hL.wld tT44 A2 0 (by decide) (fun j _ => by rw [Nat.zero_add]) (by rfl) (.tmp 2) (by rfl) (by rfl) ?_)
  refine (CE0 _ B2).mono ?_
  rintro e w3 ⟨rfl, b3⟩
  have B3 := Bel.call B2 b3
  clear CE0 B2 b3 A2 hE hL
  go_wp2_with fail
  exact bodyPost_ret (v := .tuple #[.string ⟨#[]⟩, .string ⟨#[]⟩, .int .i64 E]) (by simp [results, Tryd.results5, go_sem]) rfl ⟨rfl, B3⟩
set_option maxHeartbeats 8000000 in
theorem xKeys_ok (L : List Value) (F : Nat → Value) (hL : Cells L 44 F) (n sz : Int) (h0 : 0 ≤ n) (h1 : n ≤ 65535) (T S0 S1 : ByteArray) (hk : ksI n = sz) (hz : sz ≠ 0) (hT : tw n = T) (t9 : T.size ≤ 1000) (w : World)
    (CE0 : ∀ W, Below w.heap.size w W → Calls Tryd.prog 12 #[.agg L.toArray, .string exN, .string ((⟨#[0, 0]⟩ ++ T) ++ ⟨#[0]⟩), .int .i64 sz] W fun e w' => e = .returned (.tuple #[.string S0, .int .i64 0]) ∧ Below W.heap.size W w')
    (CE1 : ∀ W, Below w.heap.size w W → Calls Tryd.prog 12 #[.agg L.toArray, .string exN, .string ((⟨#[0, 0]⟩ ++ T) ++ ⟨#[1]⟩), .int .i64 sz] W fun e w' => e = .returned (.tuple #[.string S1, .int .i64 0]) ∧ Below W.heap.size W w') :
    Calls Tryd.prog 5 #[.agg L.toArray, .int .i64 n] w fun e w' => e = .returned (.tuple #[.string S0, .string S1, .int .i64 0]) ∧ Below w.heap.size w w' := by
  have CK := fun W => nKeySize_any n W
  rw [hk] at CK
  have CT := fun W => ntwo_any n h0 h1 W
  rw [hT] at CT
  have q : (sz == 0) = false := by simpa using hz
  have A : Arr _ _ 44 _ := hL.new w 35 _ rfl
  have hB : Below w.heap.size w (w.alloc (.cells L.toArray 35)) := by go_grown
  have p0 : (T.size : Int) ≤ 1000 := by omega
  clear hk hz t9 hT
  unfold exN at CE0 CE1
  go_enter Tryd.func5, Tryd.ntmps5
  go_upto_region 1 with (fail)
  generalize w.alloc (.cells L.toArray 35) = W0 at *
  go_wp2_with fail
  refine (CK _).mono ?_
  rintro e w1 ⟨rfl, rfl⟩
  clear CK
  go_wp2_with fail
  refine (CT _).mono ?_
  rintro e w2 ⟨rfl, b2⟩
  have B2 := Bel.call hB b2
  have A2 : Arr _ _ (43 + 1) _ := A.to' (n := 43) b2
  clear CT hB b2 A
  go_wp2_with (refine hL.wld tT44 A2 0 (by decide) (fun j _ => by rw [Nat.zero_add]) (by rfl) (.tmp 2) (by rfl) (by rfl) ?_)
  refine (CE0 _ B2).mono ?_
  rintro e w3 ⟨rfl, b3⟩
  have B3 := Bel.call B2 b3
  have A3 : Arr _ _ (43 + 1) _ := A2.to' (n := 43) b3
  clear CE0 B2 b3 A2
  go_wp2_with (refine hL.wld tT44 A3 0 (by decide) (fun j _ => by rw [Nat.zero_add]) (by rfl) (.tmp 2) (by rfl) (by rfl) ?_)
  refine (CE1 _ B3).mono ?_
  rintro e w4 ⟨rfl, b4⟩
  have B4 := Bel.call B3 b4
  clear CE1 B3 b4 A3 hL
  go_wp2_with fail
  exact bodyPost_ret (v := .tuple #[.string S0, .string S1, .int .i64 0]) (by simp [results, Tryd.results5, go_sem]) rfl ⟨rfl, B4⟩
end Go.Proofs.YtmkfnfencllfnaaDoor
