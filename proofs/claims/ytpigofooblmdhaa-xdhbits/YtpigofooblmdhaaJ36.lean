/- What hexed and awake of layer 3's statements answer. -/
import Derived.Test.YtpigofooblmdhaaJ35
set_option linter.all false
set_option maxRecDepth 100000
namespace Go.Proofs.Ytpigofooblmdhaa
open Go.RowKit Go.Sort
set_option maxHeartbeats 2000000 in
theorem hexed_core (s G : ByteArray) (N E : Int) (w : World)
    (CP : ∀ W, Calls Try.prog 9 #[.string s] W fun e w' => e = .returned (.tuple #[nv N, .int .i64 E]) ∧ Below W.heap.size W w')
    (CB : ∀ W, Calls Try.prog 17 #[nv N] W fun e w' => e = .returned (.string G) ∧ Below W.heap.size W w') :
    Calls Try.prog 80 #[.string s] w fun e w' => e = .returned (.string G) ∧ Below w.heap.size w w' := by
  go_enter Try.func80, Try.ntmps80
  go_wp2_with fail
  refine (CP _).mono ?_
  rintro e w1 ⟨rfl, hb1⟩
  go_wp2_with fail
  refine (CB _).mono ?_
  rintro e w2 ⟨rfl, hb2⟩
  have hB2 := Bel.call (Bel.al hb1 (.cells #[.int .u64 (lim N 0), .int .u64 (lim N 1), .int .u64 (lim N 2), .int .u64 (lim N 3)] 24)) hb2
  go_wp2_with fail
  go_returns
  exact ⟨rfl, hB2⟩
theorem hexed_u (s : ByteArray) (hs : s.size ≤ maxLen) (w : World) : Calls Try.prog 80 #[.string s] w fun e w' => e = .returned (.string (mkS (bgL (paN s)))) ∧ Below w.heap.size w w' :=
  hexed_core s _ _ _ w (refParse_u s hs) (refBig_any _)
theorem flN_big (N : Int) : flN (mkS (bgL N)) = pn 8 (fun i => byt N (31 - i)) 32 := by
  unfold flN
  rw [if_pos (by rw [mkS_size]; simp [bgL])]
  refine pn_congr 8 _ _ 32 fun i hi => ?_
  have b := byt_bd N (31 - i)
  exact mkS_bt _ (31 - i) _ (bgL_at N (31 - i) (by omega)) b.1 b.2
theorem flN_little (N : Int) : flN (mkS (ltL N)) = pn 8 (byt N) 32 := by
  unfold flN
  rw [if_pos (by rw [mkS_size]; simp [ltL])]
  refine pn_congr 8 _ _ 32 fun i hi => ?_
  have b := byt_bd N (31 - (31 - i))
  rw [mkS_bt _ (31 - i) _ (ltL_at N (31 - i) (by omega)) b.1 b.2, show 31 - (31 - i) = i by omega]
def kT : ByteArray := ⟨#[97, 53, 52, 54, 101, 51, 54, 98, 102, 48, 53, 50, 55, 99, 57, 100, 51, 98, 49, 54, 49, 53, 52, 98, 56, 50, 52, 54, 53, 101, 100, 100, 54, 50, 49, 52, 52, 99, 48, 97, 99, 49, 102, 99, 53, 97, 49, 56, 53, 48, 54, 97, 50, 50, 52, 52, 98, 97, 52, 52, 57, 97, 99, 52]⟩
theorem kT_n : paN kT = 74756868917217338918917584016587037124861727485050470800130516242174941895364 := by
  unfold paN
  rw [if_pos ⟨by decide, by unfold alld; decide +kernel⟩]
  decide +kernel
def uT : ByteArray := ⟨#[101, 54, 100, 98, 54, 56, 54, 55, 53, 56, 51, 48, 51, 48, 100, 98, 51, 53, 57, 52, 99, 49, 97, 52, 50, 52, 98, 49, 53, 102, 55, 99, 55, 50, 54, 54, 50, 52, 101, 99, 50, 54, 98, 51, 51, 53, 51, 98, 49, 48, 97, 57, 48, 51, 97, 54, 100, 48, 97, 98, 49, 99, 52, 99]⟩
theorem uT_n : paN uT = 104419615249119614659739186697032859710140679125170609451633447793090120850508 := by
  unfold paN
  rw [if_pos ⟨by decide, by unfold alld; decide +kernel⟩]
  decide +kernel
def rT : ByteArray := ⟨#[99, 51, 100, 97, 53, 53, 51, 55, 57, 100, 101, 57, 99, 54, 57, 48, 56, 101, 57, 52, 101, 97, 52, 100, 102, 50, 56, 100, 48, 56, 52, 102, 51, 50, 101, 99, 99, 102, 48, 51, 52, 57, 49, 99, 55, 49, 102, 55, 53, 52, 98, 52, 48, 55, 53, 53, 55, 55, 97, 50, 56, 53, 53, 50]⟩
theorem rT_n : paN rT = 88586766281725376921413435608782555080348280383973441073918345390347211933010 := by
  unfold paN
  rw [if_pos ⟨by decide, by unfold alld; decide +kernel⟩]
  decide +kernel
theorem kS_n : flN (mkS (bgL 74756868917217338918917584016587037124861727485050470800130516242174941895364)) = 88925887110773138616681052956207043583107764937498542285260013040410376226469 := by rw [flN_big]; decide +kernel
theorem uS_n : flN (mkS (bgL 104419615249119614659739186697032859710140679125170609451633447793090120850508)) = 34426434033919594451155107781188821651316167215306631574996226621102155684838 := by rw [flN_big]; decide +kernel
theorem zS_n : flN (mkS (ltL 0)) = 0 := by rw [flN_little]; decide +kernel
theorem kC_n : cl 88925887110773138616681052956207043583107764937498542285260013040410376226469 = 31029842492115040904895560451863089656472772604678260265531221036453811406496 := by decide +kernel
theorem uC_n : c5 34426434033919594451155107781188821651316167215306631574996226621102155684838 % pp = 34426434033919594451155107781188821651316167215306631574996226621102155684838 := by decide +kernel
theorem big32 (N : Int) : (mkS (bgL N)).size = 32 := by rw [mkS_size]; simp [bgL]
theorem lit32 (N : Int) : (mkS (ltL N)).size = 32 := by rw [mkS_size]; simp [ltL]
theorem rS_n : rawS (mkS (bgL 74756868917217338918917584016587037124861727485050470800130516242174941895364)) (mkS (bgL 104419615249119614659739186697032859710140679125170609451633447793090120850508)) = mkS (bgL 88586766281725376921413435608782555080348280383973441073918345390347211933010) := by
  unfold rawS
  rw [if_pos ⟨big32 _, big32 _⟩, kS_n, uS_n, kC_n, uC_n, xr_a]
  exact congrArg mkS (by decide +kernel)
theorem rE_n (k u : ByteArray) (hk : k.size = 32) (hu : u.size = 32) : rawE k u = 0 := by unfold rawE; rw [if_pos hk, lenE_yes (by omega)]
theorem zR_n : rawS (mkS (bgL 74756868917217338918917584016587037124861727485050470800130516242174941895364)) (mkS (ltL 0)) = mkS (ltL 0) := by
  unfold rawS
  rw [if_pos ⟨big32 _, lit32 _⟩, kS_n, zS_n, kC_n, show c5 0 % pp = 0 by decide, xr_z]
theorem zE_n : shE (mkS (bgL 74756868917217338918917584016587037124861727485050470800130516242174941895364)) (mkS (ltL 0)) = 15 := by
  unfold shE
  rw [if_pos (rE_n _ _ (big32 _) (lit32 _)), if_pos (by rw [zR_n])]
set_option maxHeartbeats 4000000 in
theorem awake3_core (k u S z T : ByteArray) (w : World)
    (H1 : ∀ W, Calls Try.prog 80 #[.string ⟨#[97, 53, 52, 54, 101, 51, 54, 98, 102, 48, 53, 50, 55, 99, 57, 100, 51, 98, 49, 54, 49, 53, 52, 98, 56, 50, 52, 54, 53, 101, 100, 100, 54, 50, 49, 52, 52, 99, 48, 97, 99, 49, 102, 99, 53, 97, 49, 56, 53, 48, 54, 97, 50, 50, 52, 52, 98, 97, 52, 52, 57, 97, 99, 52]⟩] W fun e w' => e = .returned (.string k) ∧ Below W.heap.size W w')
    (H2 : ∀ W, Calls Try.prog 80 #[.string ⟨#[101, 54, 100, 98, 54, 56, 54, 55, 53, 56, 51, 48, 51, 48, 100, 98, 51, 53, 57, 52, 99, 49, 97, 52, 50, 52, 98, 49, 53, 102, 55, 99, 55, 50, 54, 54, 50, 52, 101, 99, 50, 54, 98, 51, 51, 53, 51, 98, 49, 48, 97, 57, 48, 51, 97, 54, 100, 48, 97, 98, 49, 99, 52, 99]⟩] W fun e w' => e = .returned (.string u) ∧ Below W.heap.size W w')
    (H3 : ∀ W, Calls Try.prog 80 #[.string ⟨#[99, 51, 100, 97, 53, 53, 51, 55, 57, 100, 101, 57, 99, 54, 57, 48, 56, 101, 57, 52, 101, 97, 52, 100, 102, 50, 56, 100, 48, 56, 52, 102, 51, 50, 101, 99, 99, 102, 48, 51, 52, 57, 49, 99, 55, 49, 102, 55, 53, 52, 98, 52, 48, 55, 53, 53, 55, 55, 97, 50, 56, 53, 53, 50]⟩] W fun e w' => e = .returned (.string S) ∧ Below W.heap.size W w')
    (CR : ∀ W, Calls Try.prog 42 #[.string k, .string u] W fun e w' => e = .returned (.tuple #[.string S, .int .i64 0]) ∧ Below W.heap.size W w')
    (CZ : ∀ W, Calls Try.prog 19 #[.agg #[.int .u64 0, .int .u64 0, .int .u64 0, .int .u64 0]] W fun e w' => e = .returned (.string z) ∧ Below W.heap.size W w')
    (CS : ∀ W, Calls Try.prog 44 #[.string k, .string z] W fun e w' => e = .returned (.tuple #[.string T, .int .i64 15]) ∧ Below W.heap.size W w') :
    Calls Try.prog 46 #[] w fun e w' => e = .returned (.bool true) ∧ Below w.heap.size w w' := by
  go_enter Try.func46, Try.ntmps46
  go_wp2_with fail
  refine (H1 _).mono ?_
  rintro e w1 ⟨rfl, hb⟩
  have hB := hb
  clear hb
  go_wp2_with fail
  refine (H2 _).mono ?_
  rintro e w2 ⟨rfl, hb⟩
  replace hB := Bel.call hB hb
  clear hb
  go_wp2_with fail
  refine (CR _).mono ?_
  rintro e w3 ⟨rfl, hb⟩
  replace hB := Bel.call hB hb
  clear hb
  go_wp2_with fail
  refine (CZ _).mono ?_
  rintro e w4 ⟨rfl, hb⟩
  replace hB := Bel.call hB hb
  clear hb
  go_wp2_with fail
  refine (CS _).mono ?_
  rintro e w5 ⟨rfl, hb⟩
  replace hB := Bel.call hB hb
  clear hb
  go_wp2_with fail
  refine (H3 _).mono ?_
  rintro e w6 ⟨rfl, hb⟩
  replace hB := Bel.call hB hb
  clear hb
  go_wp2_with fail
  go_returns
  exact ⟨rfl, hB⟩
theorem awake3 (w : World) : Calls Try.prog 46 #[] w fun e w' => e = .returned (.bool true) ∧ Below w.heap.size w w' := by
  have m32 : ∀ s : ByteArray, s.size = 32 → s.size ≤ maxLen := fun s h => by rw [h]; decide
  refine awake3_core (mkS (bgL 74756868917217338918917584016587037124861727485050470800130516242174941895364)) (mkS (bgL 104419615249119614659739186697032859710140679125170609451633447793090120850508)) (mkS (bgL 88586766281725376921413435608782555080348280383973441073918345390347211933010)) (mkS (ltL 0)) (shS (mkS (bgL 74756868917217338918917584016587037124861727485050470800130516242174941895364)) (mkS (ltL 0))) w (fun W => ?_) (fun W => ?_) (fun W => ?_) (fun W => ?_) (fun W => ?_) (fun W => ?_)
  · have := hexed_u kT (by decide) W
    rw [kT_n] at this
    exact this
  · have := hexed_u uT (by decide) W
    rw [uT_n] at this
    exact this
  · have := hexed_u rT (by decide) W
    rw [rT_n] at this
    exact this
  · have := raw_u (mkS (bgL 74756868917217338918917584016587037124861727485050470800130516242174941895364)) (mkS (bgL 104419615249119614659739186697032859710140679125170609451633447793090120850508)) (m32 _ (big32 _)) (m32 _ (big32 _)) W
    rw [rS_n, rE_n _ _ (big32 _) (big32 _)] at this
    exact this
  · have := refLittle_any 0 W
    rw [nv_zero] at this
    exact this
  · have := shared_u (mkS (bgL 74756868917217338918917584016587037124861727485050470800130516242174941895364)) (mkS (ltL 0)) (m32 _ (big32 _)) (m32 _ (lit32 _)) W
    rw [zE_n] at this
    exact this
end Go.Proofs.Ytpigofooblmdhaa
