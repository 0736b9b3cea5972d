/- A number by 7 bits in a byte, read. -/
import Derived.Test.YtajdfjpcobaioaaGreatDoorD5
import Derived.Test.YtajdfjpcobaioaaGreatDoorD12
set_option linter.all false
set_option maxRecDepth 100000
namespace Go.Proofs.YtajdfjpcobaioaaGreatDoor
open Go.RowKit Go.Sort
theorem sL_inj' {a b : ByteArray} (h : sL a = sL b) : a = b := by rw [← mkS_sL a, ← mkS_sL b, h]
theorem sL_ext' (s : ByteArray) (a b : Nat) : sL (s.extract a b) = ((sL s).drop a).take (b - a) := by unfold sL; rw [ext_list, List.map_take, List.map_drop]
/-- One number read from the left: its value, what stands behind, the error. -/
def rsF : List Int → Int → Int × List Int × Int
  | [], _ => (0, [], 11)
  | c :: cs, n => if 4294967295 < n * 128 + c % 128 then (0, [], 13) else if c < 128 then (n * 128 + c % 128, cs, 0) else rsF cs (n * 128 + c % 128)
theorem sL_drop (s : ByteArray) (k : Nat) (h : k < s.size) : (sL s).drop k = bt s k :: (sL s).drop (k + 1) := by
  rw [List.drop_eq_getElem_cons (by rw [sL_len]; exact h)]
  congr 1
  rw [bt_sL, List.getD_eq_getElem?_getD, List.getElem?_eq_getElem (by rw [sL_len]; exact h)]; rfl
theorem rs_h (s : ByteArray) (hs : 0 < s.size) (h : bt s 0 = 128) (w : World) : Calls Tryz.prog 25 #[.string s] w fun e w' => e = .returned (.tuple #[.int .u32 0, .string ⟨#[]⟩, .int .i64 10]) ∧ Below w.heap.size w w' := by
  have I := idx0 s hs
  rw [h] at I
  go_enter Tryz.func25, Tryz.ntmps25
  go_wp2_with fail
  exact bodyPost_ret (v := .tuple #[.int .u32 0, .string ⟨#[]⟩, .int .i64 10]) (by simp [results, Tryz.results25, go_sem]) rfl ⟨rfl, by go_grown⟩
set_option maxHeartbeats 1000000 in
theorem rs_any (s : ByteArray) (hs : 0 < s.size) (hm : s.size ≤ maxLen) (h : bt s 0 ≠ 128) (V : Int) (R : ByteArray) (E : Int) (hR : Hid (rsF (sL s) 0 = (V, sL R, E))) (w : World) : Calls Tryz.prog 25 #[.string s] w fun e w' => e = .returned (.tuple #[.int .u32 V, .string R, .int .i64 E]) ∧ Below w.heap.size w w' := by
  have I := idx0 s hs
  have b0 := bt_bd s 0
  unfold maxLen at hm
  have hz : (s.size : Int) ≤ 9223372036854775807 := by omega
  have hne : (bt s 0 == 128) = false := by simp [h]
  generalize bt s 0 = x at *
  go_enter Tryz.func25, Tryz.ntmps25
  go_wp2_with fail
  clear I b0 h hne
  go_loop [5, 12] (fun n i => ∃ (k : Nat) (m : Int), k ≤ s.size ∧ n = .int .u64 m ∧ i = .int .i64 (k : Int) ∧ 0 ≤ m ∧ m ≤ 4294967295 ∧ rsF ((sL s).drop k) m = (V, sL R, E)) (fun _ i => s.size - (intOf i).toNat)
  case atStart => exact ⟨0, 0, by omega, rfl, rfl, by omega, by omega, hR.out⟩
  case round =>
    obtain ⟨k, m, hk, rfl, rfl, m0, m1, hr⟩ := hrel
    by_cases hlt : k < s.size
    · rw [sL_drop s k hlt, rsF] at hr
      have I := idxS s k hlt
      have cb := bt_bd s k
      have k0 : (0 : Int) ≤ (k : Int) := by omega
      have k1 : (k : Int) < (s.size : Int) := by omega
      by_cases g1 : 4294967295 < m * 128 + bt s k % 128
      · rw [if_pos g1] at hr
        simp only [Prod.mk.injEq] at hr
        obtain ⟨rfl, hR2, rfl⟩ := hr
        have eR : R = ⟨#[]⟩ := by rw [← mkS_sL R, ← hR2]; rfl
        subst eR
        clear hR hR2
        generalize bt s k = c at *
        go_wp2_with fail
        exact bodyPost_ret (v := .tuple #[.int .u32 0, .string ⟨#[]⟩, .int .i64 13]) (by simp [results, Tryz.results25, go_sem]) rfl ⟨rfl, by go_grown⟩
      · rw [if_neg g1] at hr
        by_cases g2 : bt s k < 128
        · rw [if_pos g2] at hr
          simp only [Prod.mk.injEq] at hr
          obtain ⟨hV, hR2, rfl⟩ := hr
          have HV : Hid (m * 128 + bt s k % 128 = V) := hV
          clear hV
          have eR : R = s.extract (k + 1) s.size := by
            apply sL_inj'
            rw [← hR2, sL_ext']
            symm
            apply List.take_of_length_le
            rw [List.length_drop, sL_len]; omega
          subst eR
          clear hR hR2
          generalize bt s k = c at *
          have e1 : (m * 128 + c % 128) % 4294967296 = m * 128 + c % 128 := by omega
          go_wp2_with fail
          go_region
          go_wp2_with fail
          exact bodyPost_ret (v := .tuple #[.int .u32 (m * 128 + c % 128), .string (s.extract (k + 1) s.size), .int .i64 0]) (by simp [results, Tryz.results25, go_sem]) rfl ⟨by rw [← HV.out], by go_grown⟩
        · rw [if_neg g2] at hr
          have HR : Hid (rsF ((sL s).drop (k + 1)) (m * 128 + bt s k % 128) = (V, sL R, E)) := hr
          clear hr hR
          have g1' : decide (4294967295 < m * 128 + bt s k % 128) = false := decide_eq_false g1
          have g2' : decide (bt s k < 128) = false := decide_eq_false g2
          generalize bt s k = c at *
          go_wp2_with fail
          exact ⟨⟨k + 1, m * 128 + c % 128, by omega, by go_num, by go_num, by omega, by omega, HR.out⟩, by simp [intOf]; omega⟩
    · obtain rfl : k = s.size := by omega
      rw [List.drop_eq_nil_of_le (by rw [sL_len]; exact Nat.le_refl _), rsF] at hr
      simp only [Prod.mk.injEq] at hr
      obtain ⟨rfl, hR2, rfl⟩ := hr
      have eR : R = ⟨#[]⟩ := by rw [← mkS_sL R, ← hR2]; rfl
      subst eR
      clear hR hR2
      go_wp2_with fail
      exact bodyPost_ret (v := .tuple #[.int .u32 0, .string ⟨#[]⟩, .int .i64 11]) (by simp [results, Tryz.results25, go_sem]) rfl ⟨rfl, by go_grown⟩
theorem rsF_bd (l : List Int) (hb : Bys l) : ∀ n, 0 ≤ n → 0 ≤ (rsF l n).1 ∧ (rsF l n).1 < 4294967296 ∧ Bys (rsF l n).2.1 ∧ ((rsF l n).2.2 = 0 → (rsF l n).2.1.length < l.length) := by
  induction l with
  | nil => intro n _; exact ⟨by simp [rsF], by simp [rsF], (by intro x hx; simp [rsF] at hx), by simp [rsF]⟩
  | cons c cs ih =>
    intro n hn
    have hc := hb.hd
    rw [rsF]
    split
    · exact ⟨by simp, by simp, (by intro x hx; cases hx), by simp⟩
    · split
      · exact ⟨by simp; omega, by simp; omega, hb.tl, by simp⟩
      · have := ih hb.tl (n * 128 + c % 128) (by omega)
        exact ⟨this.1, this.2.1, this.2.2.1, fun h => by have := this.2.2.2 h; simp; omega⟩
/-- Rows of numbers read from the left. -/
def pr : List Int → List Int → Int → Bool → List Int × Int
  | [], acc, _, b => if b then ([], 11) else (acc, 0)
  | c :: cs, acc, n, b => if b = false ∧ c = 128 then ([], 10) else if 4294967295 < n * 128 + c % 128 then ([], 13) else if c < 128 then (if acc.length = 16 then ([], 18) else pr cs (acc ++ [n * 128 + c % 128]) 0 false) else pr cs acc (n * 128 + c % 128) true
theorem pr_rs (l : List Int) : ∀ acc n, pr l acc n true = if (rsF l n).2.2 ≠ 0 then ([], (rsF l n).2.2) else if acc.length = 16 then ([], 18) else pr (rsF l n).2.1 (acc ++ [(rsF l n).1]) 0 false := by
  induction l with
  | nil => intro acc n; simp [pr, rsF]
  | cons c cs ih =>
    intro acc n
    rw [pr, rsF, if_neg (by simp)]
    by_cases g1 : 4294967295 < n * 128 + c % 128
    · rw [if_pos g1, if_pos g1]; simp
    · rw [if_neg g1, if_neg g1]
      by_cases g2 : c < 128
      · rw [if_pos g2, if_pos g2]; simp
      · rw [if_neg g2, if_neg g2]; exact ih acc _
theorem pr_start (c : Int) (cs acc : List Int) (h : c ≠ 128) : pr (c :: cs) acc 0 false = pr (c :: cs) acc 0 true := by
  rw [pr, pr, if_neg (show ¬ (false = false ∧ c = 128) from fun h2 => h h2.2), if_neg (show ¬ (true = false ∧ c = 128) from fun h2 => by cases h2.1)]
end Go.Proofs.YtajdfjpcobaioaaGreatDoor
