/- Six blocks of RFC 5297's first example, reckoned. -/
import Derived.Test.YtogkijjmimaccaaJ17
set_option linter.all false
set_option maxRecDepth 100000
namespace Go.Proofs.Ytogkijjmimaccaa
def xaK : ByteArray := ⟨#[255, 254, 253, 252, 251, 250, 249, 248, 247, 246, 245, 244, 243, 242, 241, 240]⟩
def xaW : List Q4 := [(255, 254, 253, 252), (251, 250, 249, 248), (247, 246, 245, 244), (243, 242, 241, 240), (119, 95, 113, 241), (140, 165, 136, 9), (123, 83, 125, 253), (136, 161, 140, 13), (71, 59, 166, 53), (203, 158, 46, 60), (176, 205, 83, 193), (56, 108, 223, 204), (19, 165, 237, 50), (216, 59, 195, 14), (104, 246, 144, 207), (80, 154, 79, 3), (163, 33, 150, 97), (123, 26, 85, 111), (19, 236, 197, 160), (67, 118, 138, 163), (139, 95, 156, 123), (240, 69, 201, 20), (227, 169, 12, 180), (160, 223, 134, 23), (53, 27, 108, 155), (197, 94, 165, 143), (38, 247, 169, 59), (134, 40, 47, 44), (65, 14, 29, 223), (132, 80, 184, 80), (162, 167, 17, 107), (36, 143, 62, 71), (178, 188, 189, 233), (54, 236, 5, 185), (148, 75, 20, 210), (176, 196, 42, 149), (181, 89, 151, 14), (131, 181, 146, 183), (23, 254, 134, 101), (167, 58, 172, 240), (3, 200, 27, 82), (128, 125, 137, 229), (151, 131, 15, 128), (48, 185, 163, 112)]
theorem xaK_nk : nkO xaK = 4 := by decide
theorem xaW_chk : ∀ n : Fin 44, (if n.val < 4 then (bF xaK (4 * n.val), bF xaK (4 * n.val + 1), bF xaK (4 * n.val + 2), bF xaK (4 * n.val + 3)) else xQ (xaW.getD (n.val - 4) (0, 0, 0, 0)) (tQ 4 n.val (xaW.getD (n.val - 1) (0, 0, 0, 0)))) = xaW.getD n.val (0, 0, 0, 0) := by decide +kernel
theorem xaW_ok (n : Nat) (hn : n < 44) : kQ (bF xaK) 4 n = xaW.getD n (0, 0, 0, 0) := by
  induction n using Nat.strongRecOn with
  | _ n ih =>
    have c := xaW_chk ⟨n, hn⟩
    by_cases h : n < 4
    · rw [if_pos h] at c
      rw [kQ_lo _ _ _ h]
      exact c
    · rw [if_neg h] at c
      rw [kQ_hi _ _ _ (by omega) (by omega), ih (n - 4) (by omega) (by omega), ih (n - 1) (by omega) (by omega)]
      exact c
def xbK : ByteArray := ⟨#[240, 241, 242, 243, 244, 245, 246, 247, 248, 249, 250, 251, 252, 253, 254, 255]⟩
def xbW : List Q4 := [(240, 241, 242, 243), (244, 245, 246, 247), (248, 249, 250, 251), (252, 253, 254, 255), (165, 74, 228, 67), (81, 191, 18, 180), (169, 70, 232, 79), (85, 187, 22, 176), (77, 13, 3, 191), (28, 178, 17, 11), (181, 244, 249, 68), (224, 79, 239, 244), (205, 210, 188, 94), (209, 96, 173, 85), (100, 148, 84, 17), (132, 219, 187, 229), (124, 56, 101, 1), (173, 88, 200, 84), (201, 204, 156, 69), (77, 23, 39, 160), (156, 244, 133, 226), (49, 172, 77, 182), (248, 96, 209, 243), (181, 119, 246, 83), (73, 182, 104, 55), (120, 26, 37, 129), (128, 122, 244, 114), (53, 13, 2, 33), (222, 193, 149, 161), (166, 219, 176, 32), (38, 161, 68, 82), (19, 172, 70, 115), (207, 155, 26, 220), (105, 64, 170, 252), (79, 225, 238, 174), (92, 77, 168, 221), (55, 89, 219, 150), (94, 25, 113, 106), (17, 248, 159, 196), (77, 181, 55, 25), (212, 195, 15, 117), (138, 218, 126, 31), (155, 34, 225, 219), (214, 151, 214, 194)]
theorem xbK_nk : nkO xbK = 4 := by decide
theorem xbW_chk : ∀ n : Fin 44, (if n.val < 4 then (bF xbK (4 * n.val), bF xbK (4 * n.val + 1), bF xbK (4 * n.val + 2), bF xbK (4 * n.val + 3)) else xQ (xbW.getD (n.val - 4) (0, 0, 0, 0)) (tQ 4 n.val (xbW.getD (n.val - 1) (0, 0, 0, 0)))) = xbW.getD n.val (0, 0, 0, 0) := by decide +kernel
theorem xbW_ok (n : Nat) (hn : n < 44) : kQ (bF xbK) 4 n = xbW.getD n (0, 0, 0, 0) := by
  induction n using Nat.strongRecOn with
  | _ n ih =>
    have c := xbW_chk ⟨n, hn⟩
    by_cases h : n < 4
    · rw [if_pos h] at c
      rw [kQ_lo _ _ _ h]
      exact c
    · rw [if_neg h] at c
      rw [kQ_hi _ _ _ (by omega) (by omega), ih (n - 4) (by omega) (by omega), ih (n - 1) (by omega) (by omega)]
      exact c
def z1B : ByteArray := ⟨#[0, 0, 0, 0, 0, 0, 0, 0, 0, 0, 0, 0, 0, 0, 0, 0]⟩
def z1C : ByteArray := ⟨#[118, 1, 252, 98, 110, 129, 224, 115, 39, 253, 40, 86, 154, 1, 251, 94]⟩
def z1S : List (List By) := [[0, 0, 0, 0, 0, 0, 0, 0, 0, 0, 0, 0, 0, 0, 0, 0], [255, 254, 253, 252, 251, 250, 249, 248, 247, 246, 245, 244, 243, 242, 241, 240], [70, 174, 18, 3, 69, 102, 87, 128, 62, 143, 247, 26, 98, 206, 201, 93], [130, 243, 203, 24, 36, 17, 31, 214, 77, 255, 175, 207, 185, 90, 218, 201], [12, 255, 242, 93, 116, 117, 161, 84, 133, 165, 242, 167, 161, 7, 10, 59], [147, 156, 193, 179, 101, 97, 219, 59, 219, 74, 254, 14, 115, 98, 46, 105], [64, 105, 210, 185, 87, 129, 135, 254, 245, 53, 210, 105, 206, 140, 88, 183], [47, 103, 248, 112, 238, 218, 70, 50, 83, 166, 140, 182, 117, 138, 99, 173], [99, 140, 51, 226, 18, 119, 170, 85, 131, 86, 101, 62, 133, 163, 64, 184], [122, 13, 157, 159, 230, 223, 220, 106, 118, 17, 112, 215, 55, 198, 87, 128], [63, 154, 61, 53, 153, 18, 94, 74, 252, 85, 176, 195, 98, 138, 228, 8], [118, 1, 252, 98, 110, 129, 224, 115, 39, 253, 40, 86, 154, 1, 251, 94]]
theorem z1S_chk : ∀ i : Fin 11, ∀ j : Fin 16, plF (rdE xaK i.val (fun q => (z1S.getD i.val []).getD q 0)) (fun q => bQ (xaW.getD ((16 * i.val + q) / 4) (0, 0, 0, 0)) ((16 * i.val + q) % 4)) j.val = (z1S.getD (i.val + 1) []).getD j.val 0 := by decide +kernel
theorem z1S_0 : ∀ j : Fin 16, bF z1B j.val = (z1S.getD 0 []).getD j.val 0 := by decide +kernel
theorem z1S_ok (i : Nat) (hi : i ≤ 11) : ∀ j, j < 16 → eS xaK (bF z1B) i j = (z1S.getD i []).getD j 0 := by
  induction i with
  | zero => intro j hj; exact z1S_0 ⟨j, hj⟩
  | succ i ih =>
    intro j hj
    rw [← z1S_chk ⟨i, by omega⟩ ⟨j, hj⟩]
    show xr (rdE xaK i (eS xaK (bF z1B) i) j) (rk xaK i j) = xr _ _
    rw [rdE_congr xaK i (ih (by omega)) j hj]
    congr 1
    unfold rk kB
    rw [xaK_nk, xaW_ok _ (by omega)]
theorem z1_enc : encS xaK z1B = z1C := by
  unfold encS encF
  rw [xaK_nk, tx_congr (z1S_ok 11 (by omega))]
  apply ba_ext
  rw [tx, mkS_list]
  decide
def z2B : ByteArray := ⟨#[236, 3, 248, 196, 221, 3, 192, 230, 79, 250, 80, 173, 52, 3, 246, 188]⟩
def z2C : ByteArray := ⟨#[14, 4, 223, 175, 193, 239, 191, 4, 1, 64, 88, 40, 89, 191, 7, 58]⟩
def z2S : List (List By) := [[236, 3, 248, 196, 221, 3, 192, 230, 79, 250, 80, 173, 52, 3, 246, 188], [19, 253, 5, 56, 38, 249, 57, 30, 184, 12, 165, 89, 199, 241, 7, 76], [18, 40, 226, 187, 162, 230, 25, 62, 66, 169, 240, 103, 58, 50, 124, 151], [67, 242, 97, 124, 43, 195, 194, 126, 167, 166, 186, 113, 46, 102, 76, 166], [133, 192, 70, 142, 116, 233, 116, 43, 153, 21, 52, 10, 52, 110, 67, 161], [158, 144, 121, 161, 172, 13, 129, 179, 197, 56, 8, 181, 83, 203, 190, 109], [243, 141, 100, 249, 92, 1, 78, 113, 78, 157, 117, 54, 24, 51, 119, 230], [184, 220, 181, 106, 223, 53, 240, 211, 198, 35, 61, 151, 10, 75, 142, 184], [115, 80, 29, 2, 210, 171, 52, 210, 172, 108, 13, 6, 127, 248, 95, 239], [25, 74, 159, 115, 15, 196, 252, 12, 127, 26, 83, 238, 141, 247, 42, 109], [243, 165, 218, 224, 248, 39, 29, 111, 53, 116, 136, 92, 228, 51, 36, 33], [14, 4, 223, 175, 193, 239, 191, 4, 1, 64, 88, 40, 89, 191, 7, 58]]
theorem z2S_chk : ∀ i : Fin 11, ∀ j : Fin 16, plF (rdE xaK i.val (fun q => (z2S.getD i.val []).getD q 0)) (fun q => bQ (xaW.getD ((16 * i.val + q) / 4) (0, 0, 0, 0)) ((16 * i.val + q) % 4)) j.val = (z2S.getD (i.val + 1) []).getD j.val 0 := by decide +kernel
theorem z2S_0 : ∀ j : Fin 16, bF z2B j.val = (z2S.getD 0 []).getD j.val 0 := by decide +kernel
theorem z2S_ok (i : Nat) (hi : i ≤ 11) : ∀ j, j < 16 → eS xaK (bF z2B) i j = (z2S.getD i []).getD j 0 := by
  induction i with
  | zero => intro j hj; exact z2S_0 ⟨j, hj⟩
  | succ i ih =>
    intro j hj
    rw [← z2S_chk ⟨i, by omega⟩ ⟨j, hj⟩]
    show xr (rdE xaK i (eS xaK (bF z2B) i) j) (rk xaK i j) = xr _ _
    rw [rdE_congr xaK i (ih (by omega)) j hj]
    congr 1
    unfold rk kB
    rw [xaK_nk, xaW_ok _ (by omega)]
theorem z2_enc : encS xaK z2B = z2C := by
  unfold encS encF
  rw [xaK_nk, tx_congr (z2S_ok 11 (by omega))]
  apply ba_ext
  rw [tx, mkS_list]
  decide
def z3B : ByteArray := ⟨#[16, 17, 18, 19, 20, 21, 22, 23, 24, 25, 26, 27, 28, 29, 30, 31]⟩
def z3C : ByteArray := ⟨#[216, 30, 115, 223, 48, 133, 125, 130, 22, 19, 143, 204, 187, 233, 71, 194]⟩
def z3S : List (List By) := [[16, 17, 18, 19, 20, 21, 22, 23, 24, 25, 26, 27, 28, 29, 30, 31], [239, 239, 239, 239, 239, 239, 239, 239, 239, 239, 239, 239, 239, 239, 239, 239], [168, 128, 174, 46, 83, 122, 87, 214, 164, 140, 162, 34, 87, 126, 83, 210], [34, 173, 14, 249, 122, 166, 53, 251, 62, 184, 59, 250, 10, 200, 81, 138], [222, 61, 7, 166, 139, 200, 124, 239, 144, 102, 150, 95, 129, 64, 253, 243], [39, 81, 79, 36, 36, 153, 159, 7, 210, 21, 71, 105, 237, 203, 203, 5], [234, 196, 88, 172, 94, 214, 194, 100, 242, 112, 225, 122, 64, 188, 191, 11], [242, 83, 139, 81, 31, 45, 20, 7, 169, 73, 84, 50, 79, 172, 5, 161], [41, 126, 90, 195, 232, 138, 253, 226, 79, 207, 125, 56, 194, 252, 221, 129], [146, 243, 151, 132, 113, 14, 255, 24, 106, 245, 244, 96, 167, 231, 93, 83], [159, 108, 58, 10, 252, 74, 174, 93, 145, 225, 247, 62, 206, 150, 186, 180], [216, 30, 115, 223, 48, 133, 125, 130, 22, 19, 143, 204, 187, 233, 71, 194]]
theorem z3S_chk : ∀ i : Fin 11, ∀ j : Fin 16, plF (rdE xaK i.val (fun q => (z3S.getD i.val []).getD q 0)) (fun q => bQ (xaW.getD ((16 * i.val + q) / 4) (0, 0, 0, 0)) ((16 * i.val + q) % 4)) j.val = (z3S.getD (i.val + 1) []).getD j.val 0 := by decide +kernel
theorem z3S_0 : ∀ j : Fin 16, bF z3B j.val = (z3S.getD 0 []).getD j.val 0 := by decide +kernel
theorem z3S_ok (i : Nat) (hi : i ≤ 11) : ∀ j, j < 16 → eS xaK (bF z3B) i j = (z3S.getD i []).getD j 0 := by
  induction i with
  | zero => intro j hj; exact z3S_0 ⟨j, hj⟩
  | succ i ih =>
    intro j hj
    rw [← z3S_chk ⟨i, by omega⟩ ⟨j, hj⟩]
    show xr (rdE xaK i (eS xaK (bF z3B) i) j) (rk xaK i j) = xr _ _
    rw [rdE_congr xaK i (ih (by omega)) j hj]
    congr 1
    unfold rk kB
    rw [xaK_nk, xaW_ok _ (by omega)]
theorem z3_enc : encS xaK z3B = z3C := by
  unfold encS encF
  rw [xaK_nk, tx_congr (z3S_ok 11 (by omega))]
  apply ba_ext
  rw [tx, mkS_list]
  decide
def z4B : ByteArray := ⟨#[32, 56, 160, 117, 174, 167, 218, 105, 9, 231, 46, 150, 211, 238, 170, 61]⟩
def z4C : ByteArray := ⟨#[241, 249, 34, 183, 245, 25, 60, 230, 79, 248, 12, 180, 125, 147, 242, 59]⟩
def z4S : List (List By) := [[32, 56, 160, 117, 174, 167, 218, 105, 9, 231, 46, 150, 211, 238, 170, 61], [223, 198, 93, 137, 85, 93, 35, 145, 254, 17, 219, 98, 32, 28, 91, 205], [128, 52, 22, 220, 108, 170, 118, 248, 100, 158, 90, 226, 182, 165, 38, 18], [94, 165, 224, 226, 7, 92, 17, 39, 58, 10, 91, 199, 44, 194, 74, 21], [29, 123, 102, 27, 174, 201, 101, 192, 49, 200, 163, 19, 252, 188, 118, 131], [106, 214, 212, 130, 28, 210, 195, 205, 160, 14, 212, 203, 107, 46, 6, 254], [184, 79, 109, 237, 73, 54, 21, 73, 158, 78, 145, 151, 110, 58, 114, 112], [50, 180, 239, 9, 215, 174, 206, 7, 172, 152, 23, 236, 229, 199, 5, 64], [201, 252, 58, 188, 56, 110, 37, 109, 208, 30, 183, 75, 68, 31, 46, 182], [78, 234, 100, 63, 250, 57, 189, 57, 147, 7, 251, 122, 193, 86, 49, 74], [4, 149, 213, 213, 63, 46, 112, 40, 45, 140, 91, 204, 101, 3, 210, 42], [241, 249, 34, 183, 245, 25, 60, 230, 79, 248, 12, 180, 125, 147, 242, 59]]
theorem z4S_chk : ∀ i : Fin 11, ∀ j : Fin 16, plF (rdE xaK i.val (fun q => (z4S.getD i.val []).getD q 0)) (fun q => bQ (xaW.getD ((16 * i.val + q) / 4) (0, 0, 0, 0)) ((16 * i.val + q) % 4)) j.val = (z4S.getD (i.val + 1) []).getD j.val 0 := by decide +kernel
theorem z4S_0 : ∀ j : Fin 16, bF z4B j.val = (z4S.getD 0 []).getD j.val 0 := by decide +kernel
theorem z4S_ok (i : Nat) (hi : i ≤ 11) : ∀ j, j < 16 → eS xaK (bF z4B) i j = (z4S.getD i []).getD j 0 := by
  induction i with
  | zero => intro j hj; exact z4S_0 ⟨j, hj⟩
  | succ i ih =>
    intro j hj
    rw [← z4S_chk ⟨i, by omega⟩ ⟨j, hj⟩]
    show xr (rdE xaK i (eS xaK (bF z4B) i) j) (rk xaK i j) = xr _ _
    rw [rdE_congr xaK i (ih (by omega)) j hj]
    congr 1
    unfold rk kB
    rw [xaK_nk, xaW_ok _ (by omega)]
theorem z4_enc : encS xaK z4B = z4C := by
  unfold encS encF
  rw [xaK_nk, tx_congr (z4S_ok 11 (by omega))]
  apply ba_ext
  rw [tx, mkS_list]
  decide
def z5B : ByteArray := ⟨#[38, 192, 240, 80, 101, 233, 50, 178, 76, 161, 146, 168, 116, 54, 142, 165]⟩
def z5C : ByteArray := ⟨#[133, 99, 45, 7, 198, 232, 243, 127, 149, 10, 205, 50, 10, 46, 204, 147]⟩
def z5S : List (List By) := [[38, 192, 240, 80, 101, 233, 50, 178, 76, 161, 146, 168, 116, 54, 142, 165], [217, 62, 13, 172, 158, 19, 203, 74, 187, 87, 103, 92, 135, 196, 127, 85], [227, 248, 55, 181, 52, 228, 207, 164, 145, 53, 95, 164, 62, 162, 201, 13], [198, 101, 57, 21, 82, 24, 101, 238, 52, 196, 28, 107, 71, 144, 248, 88], [122, 133, 105, 16, 228, 153, 182, 225, 194, 48, 180, 197, 238, 8, 185, 6], [199, 223, 18, 169, 57, 75, 209, 9, 8, 65, 42, 237, 89, 31, 88, 85], [203, 44, 39, 159, 243, 39, 226, 118, 16, 67, 118, 239, 255, 36, 80, 91], [69, 246, 132, 60, 121, 73, 98, 124, 7, 38, 158, 244, 126, 176, 25, 90], [101, 181, 135, 58, 206, 159, 108, 127, 78, 70, 189, 167, 10, 162, 26, 196], [56, 206, 251, 167, 247, 174, 16, 220, 65, 251, 66, 49, 22, 190, 220, 1], [220, 133, 168, 55, 152, 14, 6, 62, 106, 173, 36, 77, 162, 242, 189, 237], [133, 99, 45, 7, 198, 232, 243, 127, 149, 10, 205, 50, 10, 46, 204, 147]]
theorem z5S_chk : ∀ i : Fin 11, ∀ j : Fin 16, plF (rdE xaK i.val (fun q => (z5S.getD i.val []).getD q 0)) (fun q => bQ (xaW.getD ((16 * i.val + q) / 4) (0, 0, 0, 0)) ((16 * i.val + q) % 4)) j.val = (z5S.getD (i.val + 1) []).getD j.val 0 := by decide +kernel
theorem z5S_0 : ∀ j : Fin 16, bF z5B j.val = (z5S.getD 0 []).getD j.val 0 := by decide +kernel
theorem z5S_ok (i : Nat) (hi : i ≤ 11) : ∀ j, j < 16 → eS xaK (bF z5B) i j = (z5S.getD i []).getD j 0 := by
  induction i with
  | zero => intro j hj; exact z5S_0 ⟨j, hj⟩
  | succ i ih =>
    intro j hj
    rw [← z5S_chk ⟨i, by omega⟩ ⟨j, hj⟩]
    show xr (rdE xaK i (eS xaK (bF z5B) i) j) (rk xaK i j) = xr _ _
    rw [rdE_congr xaK i (ih (by omega)) j hj]
    congr 1
    unfold rk kB
    rw [xaK_nk, xaW_ok _ (by omega)]
theorem z5_enc : encS xaK z5B = z5C := by
  unfold encS encF
  rw [xaK_nk, tx_congr (z5S_ok 11 (by omega))]
  apply ba_ext
  rw [tx, mkS_list]
  decide
def z6B : ByteArray := ⟨#[133, 99, 45, 7, 198, 232, 243, 127, 21, 10, 205, 50, 10, 46, 204, 147]⟩
def z6C : ByteArray := ⟨#[81, 226, 24, 210, 197, 162, 171, 140, 67, 69, 196, 166, 35, 178, 240, 143]⟩
def z6S : List (List By) := [[133, 99, 45, 7, 198, 232, 243, 127, 21, 10, 205, 50, 10, 46, 204, 147], [117, 146, 223, 244, 50, 29, 5, 136, 237, 243, 55, 201, 246, 211, 50, 108], [185, 97, 2, 97, 156, 92, 160, 154, 243, 162, 171, 219, 182, 7, 177, 243], [80, 100, 204, 119, 210, 180, 84, 69, 52, 73, 12, 138, 15, 70, 69, 64], [16, 144, 158, 202, 118, 228, 251, 53, 159, 139, 50, 244, 243, 53, 76, 224], [138, 164, 184, 215, 199, 21, 3, 224, 88, 171, 102, 153, 71, 116, 142, 189], [194, 23, 74, 254, 23, 139, 201, 128, 12, 96, 201, 106, 160, 38, 192, 93], [213, 217, 5, 32, 233, 63, 188, 141, 126, 221, 6, 203, 58, 104, 181, 51], [235, 90, 99, 35, 160, 143, 28, 99, 34, 56, 195, 200, 45, 246, 24, 134], [249, 162, 16, 41, 48, 100, 102, 33, 180, 27, 196, 84, 90, 165, 206, 71], [103, 194, 194, 34, 146, 123, 35, 19, 45, 193, 135, 101, 119, 10, 181, 137], [81, 226, 24, 210, 197, 162, 171, 140, 67, 69, 196, 166, 35, 178, 240, 143]]
theorem z6S_chk : ∀ i : Fin 11, ∀ j : Fin 16, plF (rdE xbK i.val (fun q => (z6S.getD i.val []).getD q 0)) (fun q => bQ (xbW.getD ((16 * i.val + q) / 4) (0, 0, 0, 0)) ((16 * i.val + q) % 4)) j.val = (z6S.getD (i.val + 1) []).getD j.val 0 := by decide +kernel
theorem z6S_0 : ∀ j : Fin 16, bF z6B j.val = (z6S.getD 0 []).getD j.val 0 := by decide +kernel
theorem z6S_ok (i : Nat) (hi : i ≤ 11) : ∀ j, j < 16 → eS xbK (bF z6B) i j = (z6S.getD i []).getD j 0 := by
  induction i with
  | zero => intro j hj; exact z6S_0 ⟨j, hj⟩
  | succ i ih =>
    intro j hj
    rw [← z6S_chk ⟨i, by omega⟩ ⟨j, hj⟩]
    show xr (rdE xbK i (eS xbK (bF z6B) i) j) (rk xbK i j) = xr _ _
    rw [rdE_congr xbK i (ih (by omega)) j hj]
    congr 1
    unfold rk kB
    rw [xbK_nk, xbW_ok _ (by omega)]
theorem z6_enc : encS xbK z6B = z6C := by
  unfold encS encF
  rw [xbK_nk, tx_congr (z6S_ok 11 (by omega))]
  apply ba_ext
  rw [tx, mkS_list]
  decide
def exK : ByteArray := ⟨#[255, 254, 253, 252, 251, 250, 249, 248, 247, 246, 245, 244, 243, 242, 241, 240, 240, 241, 242, 243, 244, 245, 246, 247, 248, 249, 250, 251, 252, 253, 254, 255]⟩
def exA : ByteArray := ⟨#[16, 17, 18, 19, 20, 21, 22, 23, 24, 25, 26, 27, 28, 29, 30, 31, 32, 33, 34, 35, 36, 37, 38, 39]⟩
def exP : ByteArray := ⟨#[17, 34, 51, 68, 85, 102, 119, 136, 153, 170, 187, 204, 221, 238]⟩
def exT : ByteArray := ⟨#[202, 195, 8, 148, 184, 234, 242, 84, 3, 91, 194, 5, 64, 53, 120, 25]⟩
def exC : ByteArray := ⟨#[133, 99, 45, 7, 198, 232, 243, 127, 149, 10, 205, 50, 10, 46, 204, 147, 64, 192, 43, 150, 144, 196, 220, 4, 218, 239, 127, 106, 254, 92]⟩
end Go.Proofs.Ytogkijjmimaccaa
