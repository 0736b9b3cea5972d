/- ShaPieces' law tells true. -/
import Derived.Test.YtbmnmmdkpemknaaDoorL6
set_option linter.all false
set_option maxRecDepth 100000
namespace Go.Proofs.YtbmnmmdkpemknaaDoor
open Go.RowKit Go.Sort
set_option maxHeartbeats 1000000 in
theorem new_x (w : World) (hT : Tab w) : Calls Tryd.prog 16 #[] w fun e w' => e = .returned (hv bgn ⟨#[]⟩ 0) ∧ w' = w.alloc (.cells #[.int .u32 (bgn 0), .int .u32 (bgn 1), .int .u32 (bgn 2), .int .u32 (bgn 3), .int .u32 (bgn 4), .int .u32 (bgn 5), .int .u32 (bgn 6), .int .u32 (bgn 7), .string ⟨#[]⟩, .int .u64 0] 37) := by
  have c := fun o => (hT.al o).1
  unfold hv
  generalize bgn = g at *
  go_enter Tryd.func16, Tryd.ntmps16
  go_wp2
  refine bodyPost_ret (v := .agg #[.int .u32 (g 0), .int .u32 (g 1), .int .u32 (g 2), .int .u32 (g 3), .int .u32 (g 4), .int .u32 (g 5), .int .u32 (g 6), .int .u32 (g 7), .string ⟨#[]⟩, .int .u64 0]) (by simp [results, Tryd.results16, go_sem]) rfl ⟨rfl, rfl⟩
theorem ap_nil' (a : ByteArray) : a ++ (⟨#[]⟩ : ByteArray) = a := by
  apply ba_ext
  rw [ap_list]
  exact List.append_nil _
theorem made_short (h : Nat → Int) (s : ByteArray) (hs : s.size < 64) : madeF h s = h := by
  unfold madeF
  rw [show s.size / 64 = 0 by omega]
  rfl
theorem lef_short (s : ByteArray) (hs : s.size < 64) : lefB s = s := by
  apply ba_ext
  rw [lefB_list, show s.size / 64 = 0 by omega]
  rfl
theorem wrH_nil (h : Nat → Int) (L : ByteArray) (hL : L.size < 64) : wrH h L ⟨#[]⟩ = h := by unfold wrH; rw [ap_nil', made_short h L hL]
theorem wrL_nil (L : ByteArray) (hL : L.size < 64) : wrL L ⟨#[]⟩ = L := by unfold wrL; rw [ap_nil', lef_short L hL]
theorem wrN_nil (n : Int) (n0 : 0 ≤ n) (n1 : n < 18446744073709551616) : wrN n ⟨#[]⟩ = n := by
  unfold wrN
  show (n + 0) % 18446744073709551616 = n
  omega
theorem pieces_true (h : Nat → Int) (L : ByteArray) (n : Int) (hL : L.size ≤ maxLen) (n0 : 0 ≤ n) (n1 : n < 18446744073709551616) (ao : Option Addr) (S : Nat → ByteArray) (len cap : Nat) (hl : len ≤ maxLen) (hm : ∀ k, k < len → (S k).size ≤ maxLen) (w : World) (hT : Tab w)
    (hc : ∀ k, k < len → ∃ a, ao = some a ∧ w.cell? (a.add k) = some (.string (S k))) :
    Calls Tryd.prog 6 #[hv h L n, .slice ao len cap] w fun e w' => e = .returned (.bool true) ∧ Below w.heap.size w w' := by
  have nil : (⟨#[]⟩ : ByteArray).size = 0 := rfl
  have c0 : cat S 0 = ⟨#[]⟩ := rfl
  have fx : decide (((wrL ⟨#[]⟩ (cat S len)).size : Int) = wrN 0 (cat S len) % 64) = true := by
    apply decide_eq_true
    unfold wrL wrN
    rw [lefB_size, app_size, nil]
    omega
  have l : decide ((L.size : Int) = n % 64) = true → L.size < 64 := fun e => by
    have := of_decide_eq_true e
    omega
  have sz : ∀ k, k < len → (cat S (k + 1)).size ≤ 20000 → (S k).size ≤ 20000 := fun k _ h => by
    have : (cat S (k + 1)).size = (cat S k).size + (S k).size := app_size _ _
    omega
  refine pieces_law h L n (decide ((L.size : Int) = n % 64)) ao S len cap hl hm w hT hc (fun k => wrH bgn ⟨#[]⟩ (cat S k)) (fun k => if k = 0 then h else wrH h L (cat S k)) (fun k => wrL ⟨#[]⟩ (cat S k)) (fun k => if k = 0 then L else wrL L (cat S k)) (fun k => wrN 0 (cat S k)) (fun k => if k = 0 then n else wrN n (cat S k)) (ofS (cat S len))
    ⟨if_pos rfl, if_pos rfl, if_pos rfl⟩ (.cells #[.int .u32 (bgn 0), .int .u32 (bgn 1), .int .u32 (bgn 2), .int .u32 (bgn 3), .int .u32 (bgn 4), .int .u32 (bgn 5), .int .u32 (bgn 6), .int .u32 (bgn 7), .string ⟨#[]⟩, .int .u64 0] 37) (fun W hW => ?_) (fun k W hk hz hW => ?_) (fun k W hf hk hz hW => ?_) (fun W => rfit_any h L n hL n0 W) (fun hz W hW => ?_) (fun hz W hW => of_any _ (by omega) W hW) (fun hz W => ?_) (fun hf hz W hW => ?_) (fun W hW => awake_any W hW)
  · have := new_x W hW
    rw [c0, wrH_nil bgn _ (by omega), wrL_nil _ (by omega), wrN_nil 0 (by omega) (by omega)]
    exact this
  · have := write_any (wrH bgn ⟨#[]⟩ (cat S k)) (wrL ⟨#[]⟩ (cat S k)) (S k) (wrN 0 (cat S k)) (by have := sz k hk hz; omega) (by have := wrL_lt ⟨#[]⟩ (cat S k); omega) W hW
    rw [wrH_twice, wrL_twice, wrN_twice] at this
    exact this
  · have q := l hf
    by_cases e : k = 0
    · subst e
      rw [if_pos rfl, if_pos rfl, if_pos rfl, if_neg (by omega), if_neg (by omega), if_neg (by omega)]
      have := write_any h L (S 0) n (by have := sz 0 hk hz; omega) (by omega) W hW
      rw [show cat S (0 + 1) = S 0 from ap_nil (S 0)]
      exact this
    · rw [if_neg e, if_neg e, if_neg e, if_neg (by omega), if_neg (by omega), if_neg (by omega)]
      have := write_any (wrH h L (cat S k)) (wrL L (cat S k)) (S k) (wrN n (cat S k)) (by have := sz k hk hz; omega) (by have := wrL_lt L (cat S k); omega) W hW
      rw [wrH_twice, wrL_twice, wrN_twice] at this
      exact this
  · exact sum_any _ _ _ (by have := wrL_lt ⟨#[]⟩ (cat S len); omega) W hW
  · have := rfit_any (wrH bgn ⟨#[]⟩ (cat S len)) (wrL ⟨#[]⟩ (cat S len)) (wrN 0 (cat S len)) (by have := wrL_lt ⟨#[]⟩ (cat S len); unfold maxLen; omega) (by unfold wrN; omega) W
    rw [fx] at this
    exact this
  · have q := l hf
    have := write_any h L (cat S len) n (by omega) (by omega) W hW
    by_cases e : len = 0
    · rw [if_pos e, if_pos e, if_pos e]
      rw [e, c0, wrH_nil h L q, wrL_nil L q, wrN_nil n n0 n1] at this
      rw [e, c0]
      exact this
    · rw [if_neg e, if_neg e, if_neg e]
      exact this
end Go.Proofs.YtbmnmmdkpemknaaDoor
