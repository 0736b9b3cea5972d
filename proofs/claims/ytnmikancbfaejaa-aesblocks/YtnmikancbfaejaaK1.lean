/- FIPS 197's example, reckoned. -/
import Derived.Test.YtnmikancbfaejaaC7
set_option linter.all false
set_option maxRecDepth 100000
namespace Go.Proofs.Ytnmikancbfaejaa
theorem tnF_congr {f g : Nat → By} (e : ∀ j, j < 16 → f j = g j) (j : Nat) (hj : j < 16) : tnF f j = tnF g j := by unfold tnF; rw [e _ (by omega)]
theorem beF_congr {f g : Nat → By} (t : By → By) (e : ∀ j, j < 16 → f j = g j) (j : Nat) (hj : j < 16) : beF t f j = beF t g j := by unfold beF; rw [e _ hj]
theorem mxF_congr {f g : Nat → By} (m0 m1 m2 m3 : By) (e : ∀ j, j < 16 → f j = g j) (j : Nat) (hj : j < 16) : mxF m0 m1 m2 m3 f j = mxF m0 m1 m2 m3 g j := by unfold mxF; rw [e _ (by omega), e _ (by omega), e _ (by omega), e _ (by omega)]
theorem rdE_congr (key : ByteArray) (i : Nat) {f g : Nat → By} (e : ∀ j, j < 16 → f j = g j) (j : Nat) (hj : j < 16) : rdE key i f j = rdE key i g j := by
  unfold rdE
  split
  · exact e j hj
  · split
    · exact tnF_congr (beF_congr sb e) j hj
    · exact mxF_congr _ _ _ _ (tnF_congr (beF_congr sb e)) j hj
def fipK : ByteArray := ⟨#[0, 1, 2, 3, 4, 5, 6, 7, 8, 9, 10, 11, 12, 13, 14, 15]⟩
def fipB : ByteArray := ⟨#[0, 17, 34, 51, 68, 85, 102, 119, 136, 153, 170, 187, 204, 221, 238, 255]⟩
def fipC : ByteArray := ⟨#[105, 196, 224, 216, 106, 123, 4, 48, 216, 205, 183, 128, 112, 180, 197, 90]⟩
def fipW : List Q4 := [(0, 1, 2, 3), (4, 5, 6, 7), (8, 9, 10, 11), (12, 13, 14, 15), (214, 170, 116, 253), (210, 175, 114, 250), (218, 166, 120, 241), (214, 171, 118, 254), (182, 146, 207, 11), (100, 61, 189, 241), (190, 155, 197, 0), (104, 48, 179, 254), (182, 255, 116, 78), (210, 194, 201, 191), (108, 89, 12, 191), (4, 105, 191, 65), (71, 247, 247, 188), (149, 53, 62, 3), (249, 108, 50, 188), (253, 5, 141, 253), (60, 170, 163, 232), (169, 159, 157, 235), (80, 243, 175, 87), (173, 246, 34, 170), (94, 57, 15, 125), (247, 166, 146, 150), (167, 85, 61, 193), (10, 163, 31, 107), (20, 249, 112, 26), (227, 95, 226, 140), (68, 10, 223, 77), (78, 169, 192, 38), (71, 67, 135, 53), (164, 28, 101, 185), (224, 22, 186, 244), (174, 191, 122, 210), (84, 153, 50, 209), (240, 133, 87, 104), (16, 147, 237, 156), (190, 44, 151, 78), (19, 17, 29, 127), (227, 148, 74, 23), (243, 7, 167, 139), (77, 43, 48, 197)]
def fipS : List (List By) := [[0, 17, 34, 51, 68, 85, 102, 119, 136, 153, 170, 187, 204, 221, 238, 255], [0, 16, 32, 48, 64, 80, 96, 112, 128, 144, 160, 176, 192, 208, 224, 240], [137, 216, 16, 232, 133, 90, 206, 104, 45, 24, 67, 216, 203, 18, 143, 228], [73, 21, 89, 143, 85, 229, 215, 160, 218, 202, 148, 250, 31, 10, 99, 247], [250, 99, 106, 40, 37, 179, 57, 201, 64, 102, 138, 49, 87, 36, 77, 23], [36, 114, 64, 35, 105, 102, 179, 250, 110, 210, 117, 50, 136, 66, 91, 108], [200, 22, 119, 188, 155, 122, 201, 59, 37, 2, 121, 146, 176, 38, 25, 150], [198, 47, 225, 9, 247, 94, 237, 195, 204, 121, 57, 93, 132, 249, 207, 93], [209, 135, 108, 15, 121, 196, 48, 10, 180, 85, 148, 173, 214, 111, 244, 31], [253, 227, 186, 210, 5, 229, 208, 215, 53, 71, 150, 78, 241, 254, 55, 241], [189, 110, 124, 61, 242, 181, 119, 158, 11, 97, 33, 110, 139, 16, 182, 137], [105, 196, 224, 216, 106, 123, 4, 48, 216, 205, 183, 128, 112, 180, 197, 90]]
theorem fipK_nk : nkO fipK = 4 := by decide
theorem fipW_chk : ∀ n : Fin 44, (if n.val < 4 then (bF fipK (4 * n.val), bF fipK (4 * n.val + 1), bF fipK (4 * n.val + 2), bF fipK (4 * n.val + 3)) else xQ (fipW.getD (n.val - 4) (0, 0, 0, 0)) (tQ 4 n.val (fipW.getD (n.val - 1) (0, 0, 0, 0)))) = fipW.getD n.val (0, 0, 0, 0) := by decide +kernel
theorem fipW_ok (n : Nat) (hn : n < 44) : kQ (bF fipK) 4 n = fipW.getD n (0, 0, 0, 0) := by
  induction n using Nat.strongRecOn with
  | _ n ih =>
    have c := fipW_chk ⟨n, hn⟩
    by_cases h : n < 4
    · rw [if_pos h] at c
      rw [kQ_lo _ _ _ h]
      exact c
    · rw [if_neg h] at c
      rw [kQ_hi _ _ _ (by omega) (by omega), ih (n - 4) (by omega) (by omega), ih (n - 1) (by omega) (by omega)]
      exact c
theorem fipS_chk : ∀ i : Fin 11, ∀ j : Fin 16, plF (rdE fipK i.val (fun q => (fipS.getD i.val []).getD q 0)) (fun q => bQ (fipW.getD ((16 * i.val + q) / 4) (0, 0, 0, 0)) ((16 * i.val + q) % 4)) j.val = (fipS.getD (i.val + 1) []).getD j.val 0 := by decide +kernel
theorem fipS_0 : ∀ j : Fin 16, bF fipB j.val = (fipS.getD 0 []).getD j.val 0 := by decide +kernel
theorem fipS_ok (i : Nat) (hi : i ≤ 11) : ∀ j, j < 16 → eS fipK (bF fipB) i j = (fipS.getD i []).getD j 0 := by
  induction i with
  | zero => intro j hj; exact fipS_0 ⟨j, hj⟩
  | succ i ih =>
    intro j hj
    rw [← fipS_chk ⟨i, by omega⟩ ⟨j, hj⟩]
    show xr (rdE fipK i (eS fipK (bF fipB) i) j) (rk fipK i j) = xr _ _
    rw [rdE_congr fipK i (ih (by omega)) j hj]
    congr 1
    unfold rk kB
    rw [fipK_nk, fipW_ok _ (by omega)]
theorem ex_enc : encS fipK fipB = fipC := by
  unfold encS encF
  rw [fipK_nk, tx_congr (fipS_ok 11 (by omega))]
  apply ba_ext
  rw [tx, mkS_list]
  decide
theorem ex_rfs : rfs fipK fipB = 0 := by decide
end Go.Proofs.Ytnmikancbfaejaa
