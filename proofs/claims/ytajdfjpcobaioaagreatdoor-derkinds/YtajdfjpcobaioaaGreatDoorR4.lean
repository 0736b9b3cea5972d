/- The reference's digits and Oid. -/
import Derived.Test.YtajdfjpcobaioaaGreatDoorD13
import Derived.Test.YtajdfjpcobaioaaGreatDoorD6
set_option linter.all false
set_option maxRecDepth 100000
namespace Go.Proofs.YtajdfjpcobaioaaGreatDoor
open Go.RowKit Go.Sort
theorem flat_len (ls : List Int) : (ls.flatMap svL).length ≤ 5 * ls.length := by
  induction ls with
  | nil => simp
  | cons x ls ih => have := svL_len x; rw [List.flatMap_cons, List.length_append, List.length_cons]; omega
set_option maxHeartbeats 2000000 in
theorem rDigits_any (n : Int) (n0 : 0 ≤ n) (n1 : n < 4294967296) (w : World) : Calls Tryz.prog 24 #[.int .u32 n] w fun e w' => e = .returned (.string (mkS (svL n))) ∧ Below w.heap.size w w' := by
  have e1 : n % 128 % 256 = n % 128 := by omega
  have cv := convC (w.alloc (.cells #[.int .u8 (n % 128)] 5)) w.heap.size 1 1 [n % 128] rfl (news_new w [.int .u8 (n % 128)] 5)
  go_enter Tryz.func24, Tryz.ntmps24
  go_wp2_with fail
  clear cv
  go_loopw [0, 3] (fun a s wr => ∃ (m : Int) (f : Nat) (L : List Int), a = .int .u32 m ∧ 0 ≤ m ∧ m < 128 ^ f ∧ m < 4294967296 ∧ L.length + f = 5 ∧ s = .string (mkS L.reverse) ∧ n % 128 :: svT 4 (n / 128) = L ++ svT f m ∧ Below w.heap.size w wr)
    (fun a _ _ => (intOf a).toNat)
  case atStart => exact ⟨n / 128, 4, [n % 128], rfl, by omega, by rw [show (128 : Int) ^ 4 = 268435456 by decide]; omega, by omega, rfl, rfl, rfl, by go_grown⟩
  case round =>
    obtain ⟨m, f, L, rfl, m0, m1, m2, hlen, rfl, hL, hB⟩ := hrel
    by_cases hlt : 0 < m
    · obtain ⟨f, rfl⟩ : ∃ f', f = f' + 1 := by
        cases f with
        | zero => simp at m1; omega
        | succ f => exact ⟨f, rfl⟩
      have HL : Hid (n % 128 :: svT 4 (n / 128) = (L ++ [128 + m % 128]) ++ svT f (m / 128)) := by
        show _ = _
        rw [hL, svT, if_neg (by omega), List.append_assoc]; rfl
      have HP : Hid (m / 128 < 128 ^ f) := by
        show _ < _
        rw [Int.pow_succ] at m1; omega
      have q1 : (m % 128 + 128) % 256 = m % 128 + 128 := by omega
      have HS : Hid (mkS [m % 128 + 128] ++ mkS L.reverse = mkS (L ++ [128 + m % 128]).reverse) := by
        show _ = _
        rw [mkS_app, List.reverse_append, Int.add_comm]; rfl
      have zL : (mkS L.reverse).size ≤ 5 := by rw [mkS_size, List.length_reverse]; omega
      have HLn : Hid (L.length + (f + 1) = 5) := hlen
      generalize mkS L.reverse = S at *
      have cv := convC (wr.alloc (.cells #[.int .u8 (m % 128 + 128)] 5)) wr.heap.size 1 1 [m % 128 + 128] rfl (news_new wr [.int .u8 (m % 128 + 128)] 5)
      have zc : (mkS [m % 128 + 128]).size = 1 := by rw [mkS_size]; rfl
      generalize mkS [m % 128 + 128] = T at *
      have AD := add_s T S (by omega)
      generalize T ++ S = TS at *
      clear hL hlen m1
      go_wp2_with fail
      refine ⟨⟨m / 128, f, L ++ [128 + m % 128], by go_num, by omega, HP.out, by omega, ?_, by rw [HS.out], HL.out, Bel.al hB _⟩, by simp [intOf]; omega⟩
      have := HLn.out
      simp; omega
    · obtain rfl : m = 0 := by omega
      rw [svT_0, List.append_nil] at hL
      have HS : Hid (mkS L.reverse = mkS (svL n)) := by
        show _ = _
        unfold svL; rw [hL]
      generalize mkS L.reverse = S at *
      clear hL m0 m1 m2
      go_wp2_with fail
      go_ret
      exact ⟨by rw [← HS.out]; rfl, hB⟩
theorem roid_s (v : Value) (l : List Int) (w : World) (h : Wds w v l) (hl : l.length < 2) : Calls Tryz.prog 7 #[v] w fun e w' => e = .returned (.tuple #[.string ⟨#[]⟩, .int .i64 11]) ∧ Below w.heap.size w w' := by
  rcases h with ⟨rfl, rfl⟩ | ⟨a, cap, rfl, h0, h2⟩
  · go_enter Tryz.func7, Tryz.ntmps7
    go_wp2_with fail
    exact bodyPost_ret (v := .tuple #[.string ⟨#[]⟩, .int .i64 11]) (by simp [results, Tryz.results7, go_sem]) rfl ⟨rfl, by go_grown⟩
  · generalize l.length = n at *
    clear h2
    have hl' : (n : Int) < 2 := by omega
    go_enter Tryz.func7, Tryz.ntmps7
    go_wp2_with fail
    exact bodyPost_ret (v := .tuple #[.string ⟨#[]⟩, .int .i64 11]) (by simp [results, Tryz.results7, go_sem]) rfl ⟨rfl, by go_grown⟩
theorem roid_m (v : Value) (l : List Int) (w : World) (h : Wds w v l) (hl : 16 < l.length) : Calls Tryz.prog 7 #[v] w fun e w' => e = .returned (.tuple #[.string ⟨#[]⟩, .int .i64 18]) ∧ Below w.heap.size w w' := by
  rcases h with ⟨rfl, rfl⟩ | ⟨a, cap, rfl, h0, h2⟩
  · simp at hl
  · generalize l.length = n at *
    clear h2
    have hl' : (16 : Int) < (n : Int) := by omega
    go_enter Tryz.func7, Tryz.ntmps7
    go_wp2_with fail
    exact bodyPost_ret (v := .tuple #[.string ⟨#[]⟩, .int .i64 18]) (by simp [results, Tryz.results7, go_sem]) rfl ⟨rfl, by go_grown⟩
theorem roid_n (a : Addr) (n cap : Nat) (x y : Int) (w : World) (h2 : 2 ≤ n) (h16 : n ≤ 16) (x0 : 0 ≤ x) (y0 : 0 ≤ y) (c0 : w.cell? a = some (.int .u32 x)) (c1 : w.cell? ⟨a.block, a.off + 1, none⟩ = some (.int .u32 y)) (h : 2 < x ∨ (x < 2 ∧ 39 < y) ∨ (x = 2 ∧ 47 < y)) : Calls Tryz.prog 7 #[.slice (some a) n cap] w fun e w' => e = .returned (.tuple #[.string ⟨#[]⟩, .int .i64 13]) ∧ Below w.heap.size w w' := by
  have n2 : (2 : Int) ≤ (n : Int) := by omega
  have n16 : (n : Int) ≤ 16 := by omega
  rcases h with h | ⟨h, h'⟩ | ⟨h, h'⟩
  · go_enter Tryz.func7, Tryz.ntmps7
    go_wp2_with fail
    exact bodyPost_ret (v := .tuple #[.string ⟨#[]⟩, .int .i64 13]) (by simp [results, Tryz.results7, go_sem]) rfl ⟨rfl, by go_grown⟩
  · have g1 : decide (2 < x) = false := decide_eq_false (by omega)
    go_enter Tryz.func7, Tryz.ntmps7
    go_wp2_with fail
    exact bodyPost_ret (v := .tuple #[.string ⟨#[]⟩, .int .i64 13]) (by simp [results, Tryz.results7, go_sem]) rfl ⟨rfl, by go_grown⟩
  · subst h
    go_enter Tryz.func7, Tryz.ntmps7
    go_wp2_with fail
    exact bodyPost_ret (v := .tuple #[.string ⟨#[]⟩, .int .i64 13]) (by simp [results, Tryz.results7, go_sem]) rfl ⟨rfl, by go_grown⟩
set_option maxHeartbeats 4000000 in
theorem roid_y (a : Addr) (n cap : Nat) (x y : Int) (ls : List Int) (F : ByteArray) (w : World) (h2 : 2 ≤ n) (h16 : n ≤ 16) (hls : ls.length = n - 2) (c0 : w.cell? a = some (.int .u32 x)) (c1 : w.cell? ⟨a.block, a.off + 1, none⟩ = some (.int .u32 y)) (x0 : 0 ≤ x) (y0 : 0 ≤ y) (hxy : (x < 2 ∧ y ≤ 39) ∨ (x = 2 ∧ y ≤ 47))
    (ck : Hid (∀ k z, ls[k]? = some z → w.cell? (a.add (k + 2)) = some (.int .u32 z))) (hz : Hid (∀ z ∈ ls, 0 ≤ z ∧ z < 4294967296)) (hF : Hid (mkS ((40 * x + y) :: ls.flatMap svL) = F))
    (C24 : Hid (∀ z, 0 ≤ z → z < 4294967296 → ∀ w : World, Calls Tryz.prog 24 #[.int .u32 z] w fun e w' => e = .returned (.string (mkS (svL z))) ∧ Below w.heap.size w w')) :
    Calls Tryz.prog 7 #[.slice (some a) n cap] w fun e w' => e = .returned (.tuple #[.string F, .int .i64 0]) ∧ Below w.heap.size w w' := by
  have n2 : (2 : Int) ≤ (n : Int) := by omega
  have n16 : (n : Int) ≤ 16 := by omega
  have r0 := fun ds os => cell_regrown c0 ds os
  have r1 := fun ds os => cell_regrown c1 ds os
  have g1 : decide (2 < x) = false := decide_eq_false (by omega)
  have g3 : decide (47 < y) = false := decide_eq_false (by omega)
  have q1 : (40 * x + y) % 256 = 40 * x + y := by omega
  rcases hxy with ⟨h, h'⟩ | ⟨h, h'⟩
  · have g2 : decide (39 < y) = false := decide_eq_false (by omega)
    go_enter Tryz.func7, Tryz.ntmps7
    go_wp2_with fail
    refine wp_region_below_tail 9 (by kernel_rfl) (by kernel_rfl) ?_
    simp only [List.take_succ_cons, List.take_zero, List.drop_succ_cons, List.drop_zero]
    repeat (go_big_quiet_step (fail))
    refine wpQuiet_nil ?_
    intro w2 hw'
    obtain ⟨⟨dq, osq⟩, hw''⟩ := hw'
    have hB := below_of hw''
    clear hw'' r0 r1
    have cv := convC (w2.alloc (.cells #[.int .u8 (40 * x + y)] 5)) w2.heap.size 1 1 [40 * x + y] rfl (news_new w2 [.int .u8 (40 * x + y)] 5)
    have HB0 : Hid _ := Bel.al hB (.cells #[.int .u8 (40 * x + y)] 5)
    have HX : Hid (∀ k, mkS ((40 * x + y) :: (ls.take k).flatMap svL) = mkS ((40 * x + y) :: (ls.take k).flatMap svL)) := fun _ => rfl
    generalize hX : 40 * x + y = X at *
    clear hX HX q1 x0 y0 hB
    go_wp2_with fail
    clear cv
    go_loopw [4, 5] (fun s i wr => ∃ (k : Nat), k + 2 ≤ n ∧ i = .int .i64 ((k : Int) + 2) ∧ s = .string (mkS (X :: (ls.take k).flatMap svL)) ∧ Below w.heap.size w wr) (fun _ i _ => n - (intOf i).toNat)
    case atStart => exact ⟨0, by omega, by simp, rfl, HB0.out⟩
    case round =>
      clear HB0
      obtain ⟨k, hk, rfl, rfl, hB⟩ := hrel
      by_cases hlt : k + 2 < n
      · have k0 : (0 : Int) ≤ (k : Int) := by omega
        have k1 : (k : Int) + 2 < (n : Int) := by omega
        obtain ⟨z, hzk⟩ : ∃ z, ls[k]? = some z := ⟨_, List.getElem?_eq_getElem (by omega)⟩
        have zb := hz.out z (List.mem_of_getElem? hzk)
        have cz0 := ck.out k z hzk
        have cz : wr.cell? (a.add (k + 2)) = some (.int .u32 z) := (hB.cell (block_lt_of_cell cz0)).trans cz0
        have C := C24.out z zb.1 zb.2
        have lz := svL_len z
        have HL : Hid (mkS (X :: (ls.take k).flatMap svL) ++ mkS (svL z) = mkS (X :: (ls.take (k + 1)).flatMap svL)) := by
          show _ = _
          rw [mkS_app, List.take_add_one, hzk, List.flatMap_append]
          simp
        have zS : (mkS (X :: (ls.take k).flatMap svL)).size ≤ 1000 := by
          rw [mkS_size, List.length_cons]
          have := flat_len (ls.take k)
          rw [List.length_take] at this
          omega
        have zV : (mkS (svL z)).size ≤ 5 := by rw [mkS_size]; omega
        generalize mkS (X :: (ls.take k).flatMap svL) = S at *
        generalize mkS (svL z) = V at *
        have AD := add_s S V (by omega)
        generalize S ++ V = SV at *
        clear hz C24 ck cz0
        obtain ⟨k', hk'⟩ : ∃ k' : Nat, (k : Int) + 2 = (k' : Int) := ⟨k + 2, by omega⟩
        have ek : k + 2 = k' := by omega
        rw [ek] at cz
        rw [hk']
        rw [hk'] at k1
        have k0' : (0 : Int) ≤ (k' : Int) := by omega
        go_wp2_with (go_at_call 24; refine (C _).mono ?_; rintro e w3 ⟨rfl, hb⟩)
        exact ⟨⟨k + 1, by omega, by first | (congr 1; omega) | go_num, by rw [HL.out], Bel.call hB hb⟩, by simp [intOf]; omega⟩
      · have ek : k + 2 = n := by omega
        have HS : Hid (mkS (X :: (ls.take k).flatMap svL) = F) := by
          show _ = _
          rw [← hF.out, show k = ls.length by omega, List.take_length]
        generalize mkS (X :: (ls.take k).flatMap svL) = S at *
        have k1 : (k : Int) + 2 = (n : Int) := by omega
        rw [k1]
        clear hz C24 ck
        go_wp2_with fail
        exact bodyPost_ret (v := .tuple #[.string S, .int .i64 0]) (by simp [results, Tryz.results7, go_sem]) rfl ⟨by rw [HS.out], hB⟩
  · have g2 : decide (x < 2) = false := decide_eq_false (by omega)
    have h3 : x ≤ 2 := by omega
    clear h
    go_enter Tryz.func7, Tryz.ntmps7
    go_wp2_with fail
    refine wp_region_below_tail 9 (by kernel_rfl) (by kernel_rfl) ?_
    simp only [List.take_succ_cons, List.take_zero, List.drop_succ_cons, List.drop_zero]
    repeat (go_big_quiet_step (fail))
    refine wpQuiet_nil ?_
    intro w2 hw'
    obtain ⟨⟨dq, osq⟩, hw''⟩ := hw'
    have hB := below_of hw''
    clear hw'' r0 r1
    have cv := convC (w2.alloc (.cells #[.int .u8 (40 * x + y)] 5)) w2.heap.size 1 1 [40 * x + y] rfl (news_new w2 [.int .u8 (40 * x + y)] 5)
    have HB0 : Hid _ := Bel.al hB (.cells #[.int .u8 (40 * x + y)] 5)
    have HX : Hid (∀ k, mkS ((40 * x + y) :: (ls.take k).flatMap svL) = mkS ((40 * x + y) :: (ls.take k).flatMap svL)) := fun _ => rfl
    generalize hX : 40 * x + y = X at *
    clear hX HX q1 x0 y0 hB
    go_wp2_with fail
    clear cv
    go_loopw [4, 5] (fun s i wr => ∃ (k : Nat), k + 2 ≤ n ∧ i = .int .i64 ((k : Int) + 2) ∧ s = .string (mkS (X :: (ls.take k).flatMap svL)) ∧ Below w.heap.size w wr) (fun _ i _ => n - (intOf i).toNat)
    case atStart => exact ⟨0, by omega, by simp, rfl, HB0.out⟩
    case round =>
      clear HB0
      obtain ⟨k, hk, rfl, rfl, hB⟩ := hrel
      by_cases hlt : k + 2 < n
      · have k0 : (0 : Int) ≤ (k : Int) := by omega
        have k1 : (k : Int) + 2 < (n : Int) := by omega
        obtain ⟨z, hzk⟩ : ∃ z, ls[k]? = some z := ⟨_, List.getElem?_eq_getElem (by omega)⟩
        have zb := hz.out z (List.mem_of_getElem? hzk)
        have cz0 := ck.out k z hzk
        have cz : wr.cell? (a.add (k + 2)) = some (.int .u32 z) := (hB.cell (block_lt_of_cell cz0)).trans cz0
        have C := C24.out z zb.1 zb.2
        have lz := svL_len z
        have HL : Hid (mkS (X :: (ls.take k).flatMap svL) ++ mkS (svL z) = mkS (X :: (ls.take (k + 1)).flatMap svL)) := by
          show _ = _
          rw [mkS_app, List.take_add_one, hzk, List.flatMap_append]
          simp
        have zS : (mkS (X :: (ls.take k).flatMap svL)).size ≤ 1000 := by
          rw [mkS_size, List.length_cons]
          have := flat_len (ls.take k)
          rw [List.length_take] at this
          omega
        have zV : (mkS (svL z)).size ≤ 5 := by rw [mkS_size]; omega
        generalize mkS (X :: (ls.take k).flatMap svL) = S at *
        generalize mkS (svL z) = V at *
        have AD := add_s S V (by omega)
        generalize S ++ V = SV at *
        clear hz C24 ck cz0
        obtain ⟨k', hk'⟩ : ∃ k' : Nat, (k : Int) + 2 = (k' : Int) := ⟨k + 2, by omega⟩
        have ek : k + 2 = k' := by omega
        rw [ek] at cz
        rw [hk']
        rw [hk'] at k1
        have k0' : (0 : Int) ≤ (k' : Int) := by omega
        go_wp2_with (go_at_call 24; refine (C _).mono ?_; rintro e w3 ⟨rfl, hb⟩)
        exact ⟨⟨k + 1, by omega, by first | (congr 1; omega) | go_num, by rw [HL.out], Bel.call hB hb⟩, by simp [intOf]; omega⟩
      · have ek : k + 2 = n := by omega
        have HS : Hid (mkS (X :: (ls.take k).flatMap svL) = F) := by
          show _ = _
          rw [← hF.out, show k = ls.length by omega, List.take_length]
        generalize mkS (X :: (ls.take k).flatMap svL) = S at *
        have k1 : (k : Int) + 2 = (n : Int) := by omega
        rw [k1]
        clear hz C24 ck
        go_wp2_with fail
        exact bodyPost_ret (v := .tuple #[.string S, .int .i64 0]) (by simp [results, Tryz.results7, go_sem]) rfl ⟨by rw [HS.out], hB⟩
theorem roid_any (v : Value) (l : List Int) (w : World) (h : Wds w v l) (hm : l.length ≤ maxLen) (hb : ∀ x ∈ l, 0 ≤ x ∧ x < 4294967296) : Calls Tryz.prog 7 #[v] w fun e w' => e = .returned (oidR l) ∧ Below w.heap.size w w' := by
  unfold oidR
  by_cases c1 : l.length < 2
  · have e : oidE l = 11 := by unfold oidE; rw [if_pos c1]
    rw [e, if_neg (by decide)]; exact roid_s v l w h c1
  by_cases c2 : 16 < l.length
  · have e : oidE l = 18 := by unfold oidE; rw [if_neg c1, if_pos c2]
    rw [e, if_neg (by decide)]; exact roid_m v l w h c2
  rcases h with ⟨rfl, rfl⟩ | ⟨a, cap, rfl, h0, h2⟩
  · simp at c1
  have g0 : l[0]? = some (l.getD 0 0) := by rw [List.getD_eq_getElem?_getD, List.getElem?_eq_getElem (by omega)]; rfl
  have g1 : l[1]? = some (l.getD 1 0) := by rw [List.getD_eq_getElem?_getD, List.getElem?_eq_getElem (by omega)]; rfl
  have e0 : w.cell? a = some (.int .u32 (l.getD 0 0)) := by have := h2 0 _ g0; simpa [Addr.add] using this
  have e1 : w.cell? ⟨a.block, a.off + 1, none⟩ = some (.int .u32 (l.getD 1 0)) := by have := h2 1 _ g1; simpa [Addr.add] using this
  have b0 := hb _ (List.mem_of_getElem? g0)
  have b1 := hb _ (List.mem_of_getElem? g1)
  have hms : msF (l.getD 0 0) = if l.getD 0 0 = 2 then 47 else 39 := rfl
  by_cases c3 : 2 < l.getD 0 0 ∨ msF (l.getD 0 0) < l.getD 1 0
  · have e : oidE l = 13 := by unfold oidE; rw [if_neg c1, if_neg c2, if_pos c3]
    rw [e, if_neg (by decide)]
    exact roid_n a l.length cap _ _ w (by omega) (by omega) b0.1 b1.1 e0 e1 (by split at hms <;> omega)
  · have e : oidE l = 0 := by unfold oidE; rw [if_neg c1, if_neg c2, if_neg c3]
    rw [e, if_pos rfl]
    refine roid_y a l.length cap _ _ (l.drop 2) _ w (by omega) (by omega) (by simp) e0 e1 b0.1 b1.1 (by split at hms <;> omega) (fun k z hk => ?_) (fun z hz => hb z (List.mem_of_mem_drop hz)) rfl (fun z z0 z1 W => rDigits_any z z0 z1 W)
    rw [List.getElem?_drop] at hk
    rw [← h2 (2 + k) z hk, Nat.add_comm]
end Go.Proofs.YtajdfjpcobaioaaGreatDoor
