/- Protect of the program, for any arguments; gcm's Open of a text that is too long. -/
import Derived.Test.YtjaljnfijhfkcaaGreatDoorJ44
set_option linter.all false
set_option maxRecDepth 100000
namespace Go.Proofs.YtjaljnfijhfkcaaGreatDoor
open Go.RowKit Go.Sort Lin
/-- Bytes 0. -/
def zS (p : Nat) : ByteArray := mkS (List.replicate p 0)
theorem zS_size (p : Nat) : (zS p).size = p := by unfold zS; rw [mkS_size, List.length_replicate]
theorem zS_list (p : Nat) : (zS p).data.toList = List.replicate p 0 := by unfold zS; rw [mkS_list]; simp
theorem rep_zS (p : Nat) : (⟨(Lib.repeatL [(0 : UInt8)] p).toArray⟩ : ByteArray) = zS p := by
  apply ba_ext
  rw [zS_list]
  show (Lib.repeatL [(0 : UInt8)] p).toArray.toList = _
  rw [List.toList_toArray]
  induction p with
  | zero => rfl
  | succ p ih => rw [Lib.repeatL, ih, List.replicate_succ]; rfl
/-- What is within a sealed record; what it is sealed to. -/
def wiS (k : Int) (b : ByteArray) (p : Nat) : ByteArray := b ++ mkS [k % 256] ++ zS p
theorem wiS_size (k : Int) (b : ByteArray) (p : Nat) : (wiS k b p).size = b.size + 1 + p := by unfold wiS; rw [ByteArray.size_append, ByteArray.size_append, mkS_size, zS_size]; rfl
def ptS (key iv : ByteArray) (q : Int) (t : ByteArray) : ByteArray := hdS 23 ((t.size : Int) + 16) ++ seS key (noS iv q) (hdS 23 ((t.size : Int) + 16)) t
def prE (key iv : ByteArray) (q k : Int) (b : ByteArray) (p : Int) : Int := if usE k b p = 0 then diE key iv q else usE k b p
def prT (key iv : ByteArray) (q k : Int) (b : ByteArray) (p : Int) : ByteArray := if prE key iv q k b p = 0 then ptS key iv q (wiS k b p.toNat) else ⟨#[]⟩
def prQ (key iv : ByteArray) (q k : Int) (b : ByteArray) (p : Int) : Int := if prE key iv q k b p = 0 then q + 1 else q
set_option maxHeartbeats 1000000 in
theorem Protect_1 (key iv b : ByteArray) (k q r p : Int) (hr : ¬ r = 0) (w : World)
    (C1 : ∀ W, Calls Tryz.prog 17 #[rcV k b, .int .i64 p] W fun e w' => e = .returned (.int .i64 r) ∧ Below W.heap.size W w') :
    Calls Tryz.prog 10 #[sdV key iv q, rcV k b, .int .i64 p] w fun e w' => e = .returned (.tuple #[sdV key iv q, .string ⟨#[]⟩, .int .i64 r]) ∧ Below w.heap.size w w' := by
  unfold sdV rcV at *
  have A0 : Arr (((w.alloc (.cells #[.string key, .string iv, .int .u64 q] 24)).alloc (.cells #[.int .i64 k, .string b] 26)).alloc (.cells #[.string ⟨#[]⟩, .string ⟨#[]⟩, .int .u64 0] 24)) w.heap.size 3 (sd3 key iv q) :=
    Arr.al' (n := 2) (Arr.al' (n := 2) (Arr.new w _ 24 _ rfl _ 3 (sd3_at key iv q)) _) _
  have A2 : Arr (((w.alloc (.cells #[.string key, .string iv, .int .u64 q] 24)).alloc (.cells #[.int .i64 k, .string b] 26)).alloc (.cells #[.string ⟨#[]⟩, .string ⟨#[]⟩, .int .u64 0] 24)) (w.heap.size + 1 + 1) 3 (sd3 ⟨#[]⟩ ⟨#[]⟩ 0) :=
    Arr.new ((w.alloc (.cells #[.string key, .string iv, .int .u64 q] 24)).alloc (.cells #[.int .i64 k, .string b] 26)) _ 24 (w.heap.size + 1 + 1) (by simp) _ 3 (sd3_at ⟨#[]⟩ ⟨#[]⟩ 0)
  have B0 : Below w.heap.size w (((w.alloc (.cells #[.string key, .string iv, .int .u64 q] 24)).alloc (.cells #[.int .i64 k, .string b] 26)).alloc (.cells #[.string ⟨#[]⟩, .string ⟨#[]⟩, .int .u64 0] 24)) := by go_grown
  go_enter Tryz.func10, Tryz.ntmps10
  go_wp2_with fail
  refine (C1 _).mono ?_
  rintro e w1 ⟨rfl, b1⟩
  replace A0 : Arr _ _ 3 _ := A0.to' (n := 2) b1
  replace A2 : Arr _ _ 3 _ := A2.to' (n := 2) b1
  replace B0 := Bel.call B0 b1
  clear C1 b1
  obtain ⟨e0, e1, e2⟩ := A0.sd
  have c := A2.c
  have z := A2.z
  obtain ⟨f0, f1, f2⟩ := (A2.ssd key iv q).sd
  unfold ssd at f0 f1 f2
  go_wp2_with fail
  refine bodyPost_ret (v := .tuple #[sdV key iv q, .string ⟨#[]⟩, .int .i64 r]) (by simp [sdV, results, Tryz.results10, go_sem, f0, f1, f2]) rfl ⟨rfl, Bel.ssd B0 (by omega) key iv q⟩
set_option maxHeartbeats 1000000 in
theorem Protect_2 (key iv b : ByteArray) (k q r p : Int) (hr : ¬ r = 0) (w : World)
    (C1 : ∀ W, Calls Tryz.prog 17 #[rcV k b, .int .i64 p] W fun e w' => e = .returned (.int .i64 0) ∧ Below W.heap.size W w')
    (C2 : ∀ W, Calls Tryz.prog 18 #[sdV key iv q] W fun e w' => e = .returned (.tuple #[.pointer none, .int .i64 r]) ∧ Below W.heap.size W w') :
    Calls Tryz.prog 10 #[sdV key iv q, rcV k b, .int .i64 p] w fun e w' => e = .returned (.tuple #[sdV key iv q, .string ⟨#[]⟩, .int .i64 r]) ∧ Below w.heap.size w w' := by
  unfold sdV rcV at *
  have A0 : Arr (((w.alloc (.cells #[.string key, .string iv, .int .u64 q] 24)).alloc (.cells #[.int .i64 k, .string b] 26)).alloc (.cells #[.string ⟨#[]⟩, .string ⟨#[]⟩, .int .u64 0] 24)) w.heap.size 3 (sd3 key iv q) :=
    Arr.al' (n := 2) (Arr.al' (n := 2) (Arr.new w _ 24 _ rfl _ 3 (sd3_at key iv q)) _) _
  have A2 : Arr (((w.alloc (.cells #[.string key, .string iv, .int .u64 q] 24)).alloc (.cells #[.int .i64 k, .string b] 26)).alloc (.cells #[.string ⟨#[]⟩, .string ⟨#[]⟩, .int .u64 0] 24)) (w.heap.size + 1 + 1) 3 (sd3 ⟨#[]⟩ ⟨#[]⟩ 0) :=
    Arr.new ((w.alloc (.cells #[.string key, .string iv, .int .u64 q] 24)).alloc (.cells #[.int .i64 k, .string b] 26)) _ 24 (w.heap.size + 1 + 1) (by simp) _ 3 (sd3_at ⟨#[]⟩ ⟨#[]⟩ 0)
  have B0 : Below w.heap.size w (((w.alloc (.cells #[.string key, .string iv, .int .u64 q] 24)).alloc (.cells #[.int .i64 k, .string b] 26)).alloc (.cells #[.string ⟨#[]⟩, .string ⟨#[]⟩, .int .u64 0] 24)) := by go_grown
  go_enter Tryz.func10, Tryz.ntmps10
  go_wp2_with fail
  refine (C1 _).mono ?_
  rintro e w1 ⟨rfl, b1⟩
  replace A0 : Arr _ _ 3 _ := A0.to' (n := 2) b1
  replace A2 : Arr _ _ 3 _ := A2.to' (n := 2) b1
  replace B0 := Bel.call B0 b1
  clear C1 b1
  obtain ⟨e0, e1, e2⟩ := A0.sd
  go_wp2_with fail
  refine (C2 _).mono ?_
  rintro e w2 ⟨rfl, b2⟩
  replace A0 : Arr _ _ 3 _ := A0.to' (n := 2) b2
  replace A2 : Arr _ _ 3 _ := A2.to' (n := 2) b2
  replace B0 := Bel.call B0 b2
  clear C2 b2 e0 e1 e2
  obtain ⟨e0, e1, e2⟩ := A0.sd
  have c := A2.c
  have z := A2.z
  obtain ⟨f0, f1, f2⟩ := (A2.ssd key iv q).sd
  unfold ssd at f0 f1 f2
  go_wp2_with fail
  refine bodyPost_ret (v := .tuple #[sdV key iv q, .string ⟨#[]⟩, .int .i64 r]) (by simp [sdV, results, Tryz.results10, go_sem, f0, f1, f2]) rfl ⟨rfl, Bel.ssd B0 (by omega) key iv q⟩
theorem rfg_ok {key n : ByteArray} (hk : key.size = 16) (hn : n.size = 12) : rfg key n = 0 := by
  unfold rfg
  rw [if_pos ((isK_iff key).2 (Or.inl hk)), if_pos hn]
theorem noE_0 {key iv : ByteArray} (h : noE key iv = 0) : key.size = 16 ∧ iv.size = 12 := by
  unfold noE at h
  split at h
  · assumption
  · omega
theorem seS_size' (k n a p : ByteArray) : (seS k n a p).size = p.size + 16 := by
  unfold seS
  rw [ByteArray.size_append, crS_size, tN_size]
theorem Protect_any (key iv b : ByteArray) (k q p : Int) (q0 : 0 ≤ q) (q1 : q < 18446744073709551616) (w : World) :
    Calls Tryz.prog 10 #[sdV key iv q, rcV k b, .int .i64 p] w fun e w' => e = .returned (.tuple #[sdV key iv (prQ key iv q k b p), .string (prT key iv q k b p), .int .i64 (prE key iv q k b p)]) ∧ Below w.heap.size w w' := by
  have C1 := fun W => unsealable_any k b p W
  by_cases h1 : usE k b p = 0
  · rw [h1] at C1
    have CN := fun W => Nonce_any key iv q q0 q1 W
    have hE : prE key iv q k b p = diE key iv q := by unfold prE; rw [if_pos h1]
    have hp : (0 ≤ p ∧ (b.size : Int) + p ≤ 16384) := by
      unfold usE at h1
      split at h1
      · split at h1
        · omega
        · split at h1 <;> omega
      · omega
    by_cases h2 : noE key iv = 0
    · obtain ⟨hk, hi⟩ := noE_0 h2
      have eN : noR key iv q = noS iv q := by unfold noR; rw [if_pos h2]
      rw [h2, eN] at CN
      by_cases h3 : q = 18446744073709551615
      · have e : prE key iv q k b p = 18 := by rw [hE]; unfold diE; rw [if_pos h2, if_pos h3]
        unfold prQ prT
        rw [e, if_neg (by decide), if_neg (by decide)]
        exact Protect_2 key iv b k q 18 p (by decide) w C1 (fun W => directionOf_2 key iv _ q h3 W CN)
      · have e : prE key iv q k b p = 0 := by rw [hE]; unfold diE; rw [if_pos h2, if_neg h3]
        unfold prQ prT
        rw [e, if_pos rfl, if_pos rfl]
        obtain ⟨n, rfl⟩ : ∃ n : Nat, p = (n : Int) := ⟨p.toNat, by omega⟩
        rw [Int.toNat_natCast]
        have zX := wiS_size k b n
        refine Protect_3 key iv b _ _ (zS n) (wiS k b n) (ptS key iv q (wiS k b n)) k q n (by omega) (by omega) rfl rfl rfl (by rw [zS_size]; omega) q0 (by omega) w C1 (fun W => directionOf_3 key iv _ q h3 W CN) (fun W => ?_) (fun W d D => ?_)
        · have := sh_strings_Repeat ⟨#[0]⟩ n W (by omega) (by show 1 * n ≤ _; omega)
          rw [show (Lib.repeatL (⟨#[0]⟩ : ByteArray).data.toList n) = Lib.repeatL [(0 : UInt8)] n from rfl, rep_zS] at this
          exact this
        · have zS' := seS_size' key (noS iv q) (hdS 23 (((wiS k b n).size : Int) + 16)) (wiS k b n)
          refine sealed_core d key iv (wiS k b n) (noS iv q) _ _ q 0 (by omega) (hdS_size _ _) (by omega) W D (fun W D => ?_) (fun W => head_any _ _ W) (fun W => ?_)
          · have := nonce_any d key iv q q0 q1 W D
            rwa [eN] at this
          · have := gSeal_any key (noS iv q) (hdS 23 (((wiS k b n).size : Int) + 16)) (wiS k b n) (by rw [noS_size]; omega) (by rw [hdS_size]; omega) (by omega) W
            have r := rfg_ok hk (noS_size iv q)
            unfold seR at this
            rwa [r, if_pos rfl] at this
    · have e : prE key iv q k b p = noE key iv := by rw [hE]; unfold diE; rw [if_neg h2]
      unfold prQ prT
      rw [e, if_neg h2, if_neg h2]
      exact Protect_2 key iv b k q _ p h2 w C1 (fun W => directionOf_1 key iv _ q _ h2 W CN)
  · have e : prE key iv q k b p = usE k b p := by unfold prE; rw [if_neg h1]
    unfold prQ prT
    rw [e, if_neg h1, if_neg h1]
    exact Protect_1 key iv b k q _ p h1 w C1
end Go.Proofs.YtjaljnfijhfkcaaGreatDoor
