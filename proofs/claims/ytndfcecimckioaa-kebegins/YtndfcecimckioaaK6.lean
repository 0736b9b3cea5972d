/- The reference: Read. -/
import Derived.Test.YtndfcecimckioaaK5
set_option linter.all false
set_option maxRecDepth 100000
namespace Go.Proofs.Ytndfcecimckioaa
open Go.RowKit Go.Shelf Go.Sort Go.Lib
def pre (L : List Ke) (x : List Ke × List UInt8 × Int) : List Ke × List UInt8 × Int := if x.2.2 = 0 then (L ++ x.1, x.2.1, 0) else ([], [], x.2.2)
theorem pre_nil (f : Nat) (t : List UInt8) (q : Nat) : pre [] (rdG f t q) = rdG f t q := by
  unfold pre
  by_cases h : (rdG f t q).2.2 = 0
  · rw [if_pos h]
    generalize rdG f t q = x at *
    obtain ⟨a, b, c⟩ := x
    simp only at h
    subst h
    rfl
  · rw [if_neg h]
    cases f with
    | zero => rw [rdG]; intro _ _ _ _ _ _ h; cases h
    | succ f =>
      match t with
      | [] => rw [rdG]; simp
      | [a] => rw [rdG]; simp
      | [a, b] => rw [rdG]; simp
      | [a, b, c] => rw [rdG]; simp
      | a :: b :: c :: d :: u =>
        rw [rdG] at h ⊢
        split
        · rfl
        split
        · rfl
        split
        · rfl
        split
        · rename_i c1 c2 c3 c4
          rw [if_neg c1, if_neg c2, if_neg c3, if_pos c4] at h
          exact absurd rfl h
        · split
          · rename_i c1 c2 c3 c4 c5
            rw [if_neg c1, if_neg c2, if_neg c3, if_neg c4, if_pos c5] at h
            exact absurd rfl h
          · rfl
theorem pre_pre (L M : List Ke) (x : List Ke × List UInt8 × Int) : pre L (pre M x) = pre (L ++ M) x := by
  unfold pre
  by_cases h : x.2.2 = 0
  · rw [if_pos h, if_pos rfl, if_pos h, List.append_assoc]
  · rw [if_neg h, if_neg h, if_neg h]
theorem pre_err (L : List Ke) (E : Int) (h : E ≠ 0) : pre L ([], [], E) = ([], [], E) := by unfold pre; rw [if_neg h]
/-- One step. -/
theorem rd_step (s : ByteArray) (q f : Nat) (h : q + 4 ≤ s.size) : ∃ k n : Nat, bt s q * 256 + bt s (q + 1) = (k : Int) ∧ bt s (q + 2) * 256 + bt s (q + 3) = (n : Int) ∧ k < 65536 ∧ n < 65536 ∧
    (1024 < n ∨ 2048 < q + 4 + n → rdG (f + 1) (s.data.toList.drop q) q = ([], [], 12)) ∧
    (¬ (1024 < n ∨ 2048 < q + 4 + n) → k % 32768 = 0 ∧ (k < 32768 ∨ 0 < n) → rdG (f + 1) (s.data.toList.drop q) q = ([], [], 10)) ∧
    (¬ (1024 < n ∨ 2048 < q + 4 + n) → ¬ (k % 32768 = 0 ∧ (k < 32768 ∨ 0 < n)) → s.size < q + 4 + n → rdG (f + 1) (s.data.toList.drop q) q = ([], [], 11)) ∧
    (¬ (1024 < n ∨ 2048 < q + 4 + n) → ¬ (k % 32768 = 0 ∧ (k < 32768 ∨ 0 < n)) → ¬ s.size < q + 4 + n → k % 32768 = 0 → rdG (f + 1) (s.data.toList.drop q) q = ([⟨decide (32768 ≤ k), ((k % 32768 : Nat) : Int), s.extract (q + 4) (q + 4 + n)⟩], s.data.toList.drop (q + 4 + n), 0)) ∧
    (¬ (1024 < n ∨ 2048 < q + 4 + n) → ¬ (k % 32768 = 0 ∧ (k < 32768 ∨ 0 < n)) → ¬ s.size < q + 4 + n → ¬ k % 32768 = 0 → rdG (f + 1) (s.data.toList.drop q) q = pre [⟨decide (32768 ≤ k), ((k % 32768 : Nat) : Int), s.extract (q + 4) (q + 4 + n)⟩] (rdG f (s.data.toList.drop (q + 4 + n)) (q + 4 + n))) := by
  obtain ⟨T, hT⟩ : ∃ T, s.data.toList = T := ⟨_, rfl⟩
  have hl : T.length = s.size := by rw [← hT, len_list]
  have hb : ∀ i (hi : i < T.length), bt s i = ((T[i]'hi).toNat : Int) := fun i hi => by
    unfold bt
    rw [← Array.getElem?_toList, hT, List.getElem?_eq_getElem hi]
    rfl
  have hd : T.drop q = T[q]'(by omega) :: T[q + 1]'(by omega) :: T[q + 2]'(by omega) :: T[q + 3]'(by omega) :: T.drop (q + 4) := by
    rw [List.drop_eq_getElem_cons (by omega), List.drop_eq_getElem_cons (by omega), List.drop_eq_getElem_cons (by omega), List.drop_eq_getElem_cons (by omega)]
  rw [hb q (by omega), hb (q + 1) (by omega), hb (q + 2) (by omega), hb (q + 3) (by omega), hT, hd]
  have l0 := byte_lt (T[q]'(by omega))
  have l1 := byte_lt (T[q + 1]'(by omega))
  have l2 := byte_lt (T[q + 2]'(by omega))
  have l3 := byte_lt (T[q + 3]'(by omega))
  generalize T[q]'(by omega) = a at *
  generalize T[q + 1]'(by omega) = b at *
  generalize T[q + 2]'(by omega) = c at *
  generalize T[q + 3]'(by omega) = d at *
  have hx : ∀ n, baL ((T.drop (q + 4)).take n) = s.extract (q + 4) (q + 4 + n) := fun n => by
    apply ba_ext
    rw [ext_list, hT, baL_list, show q + 4 + n - (q + 4) = n by omega]
  have hdd : ∀ n, (T.drop (q + 4)).drop n = T.drop (q + 4 + n) := fun n => by rw [List.drop_drop]
  have hln : (T.drop (q + 4)).length = s.size - (q + 4) := by rw [List.length_drop, hl]
  refine ⟨a.toNat * 256 + b.toNat, c.toNat * 256 + d.toNat, by omega, by omega, by omega, by omega, ?_⟩
  rw [rdG, hx, hdd, hln]
  generalize a.toNat * 256 + b.toNat = k at *
  generalize c.toNat * 256 + d.toNat = n at *
  refine ⟨fun h1 => by rw [if_pos h1], fun h1 h2 => by rw [if_neg h1, if_pos h2], fun h1 h2 h3 => by rw [if_neg h1, if_neg h2, if_pos (by omega)], fun h1 h2 h3 h4 => by rw [if_neg h1, if_neg h2, if_neg (by omega), if_pos h4], fun h1 h2 h3 h4 => ?_⟩
  rw [if_neg h1, if_neg h2, if_neg (by omega), if_neg h4]
  unfold pre
  rfl
theorem rd_end (s : ByteArray) (q f : Nat) (h : ¬ q + 4 ≤ s.size) : rdG (f + 1) (s.data.toList.drop q) q = ([], [], 11) := by
  have hl : (s.data.toList.drop q).length < 4 := by rw [List.length_drop, len_list]; omega
  generalize s.data.toList.drop q = t at *
  match t, hl with
  | [], _ => rw [rdG]; simp
  | [a], _ => rw [rdG]; simp
  | [a, b], _ => rw [rdG]; simp
  | [a, b, c], _ => rw [rdG]; simp
  | a :: b :: c :: d :: u, hl => exact absurd hl (by simp only [List.length_cons]; omega)
def rdT (s : ByteArray) : List Ke × List UInt8 × Int := rdG 513 s.data.toList 0
def rdL (s : ByteArray) : List Ke := (rdT s).1
def rdR (s : ByteArray) : ByteArray := baL (rdT s).2.1
def rdE (s : ByteArray) : Int := (rdT s).2.2
theorem arr_far {W W' : World} {b n : Nat} {f : Nat → Value} {row : Option Nat} (h : Arr W b (n + 1) f) (hg : W.grownBy W' row) (hne : some b ≠ row) : Arr W' b (n + 1) f := fun j hj =>
  ⟨(World.cell?_of_block (a := ⟨b, j, none⟩) (hg.block b h.lt hne)).trans (h j hj).1, (World.frozen?_of_block (a := ⟨b, j, none⟩) (hg.block b h.lt hne)).trans (h j hj).2⟩
set_option maxHeartbeats 8000000 in
theorem rRead_any (s : ByteArray) (hs : s.size ≤ 281474976710656) (w : World) :
    Calls Try.prog 11 #[.string s] w fun e w' => (∃ v, e = .returned (.tuple #[v, .string (rdR s), .int .i64 (rdE s)]) ∧ Kls w' v (rdL s)) ∧ Below w.heap.size w w' := by
  obtain ⟨i0, hi, hz0, hz1, hz2⟩ := info_parts Try.infoK
  have own0 : w.ownsRow w.heap.size 47 3 (.slice none 0 0) 0 (flK []) := ⟨rfl, .inl ⟨rfl, rfl⟩⟩
  have HR0 : Hid (rdT s = pre [] (rdG 513 (s.data.toList.drop 0) 0)) := by show _ = _; rw [pre_nil]; rfl
  have HER : Hid (∀ L E, E ≠ 0 → rdT s = pre L ([], [], E) → rdE s = E ∧ rdR s = ⟨#[]⟩ ∧ rdL s = []) := fun L E h he => by
    rw [pre_err L E h] at he
    unfold rdE rdR rdL
    rw [he]
    exact ⟨rfl, rfl, rfl⟩
  have i1 : (s.size : Int) ≤ 281474976710656 := by omega
  go_enter Try.func11, Try.ntmps11
  go_wp2_with fail
  go_loopw [5, 6] (fun v i wr => ∃ (q : Nat) (L : List Ke), i = .int .i64 (q : Int) ∧ q ≤ s.size ∧ q ≤ 2048 ∧ 4 * L.length ≤ q ∧ wr.ownsRow w.heap.size 47 3 v L.length (flK L) ∧ Hid (rdT s = pre L (rdG (513 - L.length) (s.data.toList.drop q) q)) ∧ Below w.heap.size w wr) (fun _ i _ => s.size - (intOf i).toNat)
  case atStart => exact ⟨0, [], rfl, by omega, by omega, by decide, own0, HR0, Below.refl _ _⟩
  case round =>
    clear own0 HR0
    obtain ⟨q, L, rfl, hq, hq2, hL, hown, hG, hB⟩ := hrel
    obtain ⟨ao, cv, rfl⟩ := own_frm hown
    have q0 : (0 : Int) ≤ (q : Int) := by omega
    have q1 : (q : Int) ≤ 2048 := by omega
    have q2 : (q : Int) ≤ (s.size : Int) := by omega
    obtain ⟨f, hf⟩ : ∃ f, 513 - L.length = f + 1 := ⟨512 - L.length, by omega⟩
    have hG' := hG.out
    rw [hf] at hG'
    by_cases h4 : q + 4 ≤ s.size
    case neg =>
      rw [rd_end s q f h4] at hG'
      obtain ⟨e1, e2, e3⟩ := HER.out L 11 (by decide) hG'
      have E1 : Hid (rdE s = 11) := e1
      have E2 : Hid (rdR s = ⟨#[]⟩) := e2
      have E3 : Hid (rdL s = []) := e3
      have i4 : (s.size : Int) - (q : Int) < 4 := by omega
      clear e1 e2 e3 hG' hf hG hown HER h4
      go_wp2_with fail
      refine bodyPost_ret (v := .tuple #[.slice none 0 0, .string ⟨#[]⟩, .int .i64 11]) (by simp [results, Try.results11, go_sem]) rfl ⟨⟨_, by rw [E1.out, E2.out], by rw [E3.out]; exact Kls.nil _⟩, hB⟩
    have i4 : ¬ (s.size : Int) - (q : Int) < 4 := by omega
    have I0 := fun W => idxS s q (by omega) W
    have I1 := fun W => idxS s (q + 1) (by omega) W
    have I2 := fun W => idxS s (q + 2) (by omega) W
    have I3 := fun W => idxS s (q + 3) (by omega) W
    rw [show ((q + 1 : Nat) : Int) = (q : Int) + 1 by omega] at I1
    rw [show ((q + 2 : Nat) : Int) = (q : Int) + 2 by omega] at I2
    rw [show ((q + 3 : Nat) : Int) = (q : Int) + 3 by omega] at I3
    obtain ⟨k, n, hk, hn, k9, n9, s1, s2, s3, s4, s5⟩ := rd_step s q f h4
    obtain ⟨b0, b1⟩ := bt_bd s q
    obtain ⟨b2, b3⟩ := bt_bd s (q + 1)
    obtain ⟨b4, b5⟩ := bt_bd s (q + 2)
    obtain ⟨b6, b7⟩ := bt_bd s (q + 3)
    generalize bt s q = x0 at *
    generalize bt s (q + 1) = x1 at *
    generalize bt s (q + 2) = x2 at *
    generalize bt s (q + 3) = x3 at *
    have HK : Hid (x0 * 256 + x1 = (k : Int)) := hk
    have HN : Hid (x2 * 256 + x3 = (n : Int)) := hn
    have HO : Hid (wr.ownsRow w.heap.size 47 3 (.slice ao L.length cv) L.length (flK L)) := hown
    have S1 : Hid _ := s1
    have S2 : Hid _ := s2
    have S3 : Hid _ := s3
    have S4 : Hid _ := s4
    have S5 : Hid _ := s5
    have HG : Hid (rdT s = pre L (rdG (f + 1) (s.data.toList.drop q) q)) := hG'
    clear hk hn s1 s2 s3 s4 s5 hown hG' hG
    go_wp2_with fail
    refine wp_region_quiet_below (by kernel_rfl) (by kernel_rfl) ?_
    repeat (go_big_quiet_step (fail))
    refine wpQuiet_nil ?_
    intro w3 hw'
    obtain ⟨⟨dq, osq⟩, hw''⟩ := hw'
    have hb := below_of hw''
    replace HO : Hid (w3.ownsRow w.heap.size 47 3 (.slice ao L.length cv) L.length (flK L)) := World.ownsRow.kept HO.out (gby hb) (by cases ao <;> simp [Value.ownBlock])
    have hB2 := Bel.call hB hb
    clear hw'' hB hb I0 I1
    go_wp2_with fail
    refine wp_region_quiet_below (by kernel_rfl) (by kernel_rfl) ?_
    repeat (go_big_quiet_step (fail))
    refine wpQuiet_nil ?_
    intro w4 hw'
    obtain ⟨⟨dq, osq⟩, hw''⟩ := hw'
    have hb := below_of hw''
    replace HO : Hid (w4.ownsRow w.heap.size 47 3 (.slice ao L.length cv) L.length (flK L)) := World.ownsRow.kept HO.out (gby hb) (by cases ao <;> simp [Value.ownBlock])
    have hB3 := Bel.call hB2 hb
    clear hw'' hB2 hb I2 I3
    rw [HK.out, HN.out]
    clear HK HN b0 b1 b2 b3 b4 b5 b6 b7
    have k0 : (0 : Int) ≤ (k : Int) := by omega
    have n0 : (0 : Int) ≤ (n : Int) := by omega
    have k1 : (k : Int) < 65536 := by omega
    have n1 : (n : Int) < 65536 := by omega
    by_cases hA : 1024 < n ∨ 2048 < q + 4 + n
    · obtain ⟨e1, e2, e3⟩ := HER.out L 12 (by decide) (by rw [HG.out, S1.out hA])
      have E1 : Hid (rdE s = 12) := e1
      have E2 : Hid (rdR s = ⟨#[]⟩) := e2
      have E3 : Hid (rdL s = []) := e3
      clear e1 e2 e3 HG S1 S2 S3 S4 S5 HO HER hf
      have hsz := hB3.size
      by_cases hA1 : 1024 < n
      · have j1 : (1024 : Int) < (n : Int) := by omega
        clear hA hA1
        go_wp2_with fail
        refine bodyPost_ret (v := .tuple #[.slice none 0 0, .string ⟨#[]⟩, .int .i64 12]) (by simp [results, Try.results11, go_sem]) rfl ⟨⟨_, by rw [E1.out, E2.out], by rw [E3.out]; exact Kls.nil _⟩, Bel.call hB3 (by go_grown)⟩
      · have j1 : ¬ (1024 : Int) < (n : Int) := by omega
        have j2 : (2048 : Int) < (q : Int) + 4 + (n : Int) := by omega
        clear hA hA1
        go_wp2_with fail
        refine bodyPost_ret (v := .tuple #[.slice none 0 0, .string ⟨#[]⟩, .int .i64 12]) (by simp [results, Try.results11, go_sem]) rfl ⟨⟨_, by rw [E1.out, E2.out], by rw [E3.out]; exact Kls.nil _⟩, Bel.call hB3 (by go_grown)⟩
    have j1 : ¬ (1024 : Int) < (n : Int) := by omega
    have j2 : ¬ (2048 : Int) < (q : Int) + 4 + (n : Int) := by omega
    have g1 : n ≤ 1024 := by omega
    have g2 : q + 4 + n ≤ 2048 := by omega
    cases hc : decide (32768 ≤ k)
    case false =>
      have c1 : ¬ (32768 : Int) ≤ (k : Int) := by have := of_decide_eq_false hc; omega
      have hc' := of_decide_eq_false hc
      by_cases hz : k % 32768 = 0
      · have hz9 : (k : Int) % 32768 = 0 := by omega
        obtain ⟨e1, e2, e3⟩ := HER.out L 10 (by decide) (by rw [HG.out, S2.out hA ⟨hz, .inl (by omega)⟩])
        have E1 : Hid (rdE s = 10) := e1
        have E2 : Hid (rdR s = ⟨#[]⟩) := e2
        have E3 : Hid (rdL s = []) := e3
        clear hc' e1 e2 e3 HG S1 S2 S3 S4 S5 HO HER hf hz hA hc
        have hsz := hB3.size
        generalize (k : Int) = K at *
        generalize (n : Int) = N at *
        go_wp2_with fail
        refine bodyPost_ret (v := .tuple #[.slice none 0 0, .string ⟨#[]⟩, .int .i64 10]) (by simp [results, Try.results11, go_sem]) rfl ⟨⟨_, by rw [E1.out, E2.out], by rw [E3.out]; exact Kls.nil _⟩, Bel.call hB3 (by go_grown)⟩
      · obtain ⟨y, hy⟩ : ∃ y, (k : Int) % 32768 = y := ⟨_, rfl⟩
        have y0 : (y == 0) = false := by simp; omega
        have y1 : 0 ≤ y := by omega
        have y2 : y < 32768 := by omega
        by_cases hs2 : s.size < q + 4 + n
        · have j4 : (s.size : Int) - (q : Int) - 4 < (n : Int) := by omega
          obtain ⟨e1, e2, e3⟩ := HER.out L 11 (by decide) (by rw [HG.out, S3.out hA (fun h => hz h.1) hs2])
          have E1 : Hid (rdE s = 11) := e1
          have E2 : Hid (rdR s = ⟨#[]⟩) := e2
          have E3 : Hid (rdL s = []) := e3
          clear hc' hs2 e1 e2 e3 HG S1 S2 S3 S4 S5 HO HER hf hz hA hc
          have hsz := hB3.size
          generalize (k : Int) = K at *
          generalize (n : Int) = N at *
          go_wp2_with fail
          refine bodyPost_ret (v := .tuple #[.slice none 0 0, .string ⟨#[]⟩, .int .i64 11]) (by simp [results, Try.results11, go_sem]) rfl ⟨⟨_, by rw [E1.out, E2.out], by rw [E3.out]; exact Kls.nil _⟩, Bel.call hB3 (by go_grown)⟩
        · have j3 : (q : Int) + 4 + (n : Int) ≤ (s.size : Int) := by omega
          have j4 : ¬ (s.size : Int) - (q : Int) - 4 < (n : Int) := by omega
          obtain ⟨K, hK⟩ : ∃ K, (k : Int) = K := ⟨_, rfl⟩
          obtain ⟨N, hN⟩ : ∃ N, (n : Int) = N := ⟨_, rfl⟩
          have HNN : Hid ((n : Int) = N) := hN
          have HY : Hid (((k % 32768 : Nat) : Int) = y) := by show _ = _; rw [← hy]; omega
          have HC : Hid (decide (32768 ≤ k) = false) := hc
          have S5' := S5.out hA (fun h => hz h.1) hs2 hz
          rw [HC.out, HY.out] at S5'
          have G5 : Hid (rdT s = pre (L ++ [⟨false, y, s.extract (q + 4) (q + 4 + n)⟩]) (rdG f (s.data.toList.drop (q + 4 + n)) (q + 4 + n))) := by
            show _ = _
            rw [HG.out, S5', pre_pre]
          clear S1 S2 S3 S4 S5 S5' HG HER hc'
          rw [hK] at hy c1 k0 k1 ⊢
          rw [hN] at j1 j2 j3 j4 n0 n1 ⊢
          clear hK hN hc hA hz hs2
          go_upto_region 15 with fail
          rw [show ((q : Int) + 4 + N).toNat = q + 4 + n by have := HNN.out; omega]
          obtain ⟨B, hB'⟩ : ∃ B, s.extract (q + 4) (q + 4 + n) = B := ⟨_, rfl⟩
          rw [hB'] at G5 ⊢
          have A1 := Arr.new w4 #[Value.bool false, .int .i64 y, .string B] 47 _ rfl _ 3 (keC_at ⟨false, y, B⟩)
          have HOW : Hid ((w4.alloc (.cells #[.bool false, .int .i64 y, .string B] 47)).ownsRow w.heap.size 47 3 (.slice ao L.length cv) L.length (flK L)) := World.ownsRow.alloc HO.out _
          have hne : some w4.heap.size ≠ (Value.slice ao L.length cv).ownBlock := fun e => absurd (HO.out.lt _ e.symm).2 (Nat.lt_irrefl _)
          have B1 := Bel.al hB3 (.cells #[.bool false, .int .i64 y, .string B] 47)
          clear hB' HO hB3
          generalize w4.alloc (.cells #[.bool false, .int .i64 y, .string B] 47) = W at *
          have c0 := A1.cv 0 (by omega) (.bool false) rfl
          have c1 := A1.cv 1 (by omega) (.int .i64 y) rfl
          have c2 := A1.cv 2 (by omega) (.string B) rfl
          have kb : L.length + 1 ≤ maxLen := by unfold maxLen; omega
          have kb2 : (L.length + 1) * 32 ≤ 140737488355328 := by omega
          have hsz := B1.size
          have sb : ∀ ob, w.heap.size ≤ (W.alloc ob).heap.size := fun ob => by simp; omega
          go_wp2_with (at_builtin; refine stopAt ?_)
          unfold Stop
          refine wpList_append_own _ rfl _ _ 22 rfl w.heap.size 47 i0 (.agg #[.bool false, .int .i64 0, .string ⟨#[]⟩]) 3 32 Try.underlying22 hi hz0 hz1 hz2 rfl (by decide) _ _ _ rfl (World.ownsRow.alloc HOW.out _) ⟨W.heap.size, 0, none⟩ 1 1 [.bool false, .int .i64 y, .string B] rfl rfl (news_new W [.bool false, .int .i64 y, .string B] 47) (fun u hu => by simp at hu; rcases hu with rfl | rfl | rfl <;> rfl) kb kb2 (sb _) ?_
          intro v' w5 hown' hgrow3 hnil3
          have b5 : Below w.heap.size w w5 := (B1.alloc B1.size _).grown hgrow3 (by go_size) (fun q hq => (HOW.out.lt q hq).1)
          have A2 := arr_far (A1.al' _) hgrow3 hne
          have HO' : Hid (w5.ownsRow w.heap.size 47 3 v' (L.length + 1) (flK (L ++ [⟨false, y, B⟩]))) := by
            show World.ownsRow _ _ _ _ _ _ _
            rw [flK_app]
            exact hown'
          have d1 := A2.cv 1 (by omega) (.int .i64 y) rfl
          clear hnil3 hgrow3 hown' hne A1 A2 HOW c0 c1 c2 B1 hsz sb
          go_wp2_with fail
          refine ⟨⟨q + 4 + n, L ++ [⟨false, y, B⟩], congrArg (Value.int .i64) (by have := HNN.out; omega), by have := HNN.out; omega, by omega, by rw [List.length_append, List.length_singleton]; omega, by rw [List.length_append, List.length_singleton]; exact HO'.out, ?_, b5⟩, ?_⟩
          · show _ = _
            rw [List.length_append, List.length_singleton, show 513 - (L.length + 1) = f by omega]
            exact G5.out
          · have := HNN.out
            simp [intOf]; omega
    case true =>
      have c1 : (32768 : Int) ≤ (k : Int) := by have := of_decide_eq_true hc; omega
      have hc' := of_decide_eq_true hc
      by_cases hz : k % 32768 = 0
      · have hz9 : (k : Int) % 32768 = 0 := by omega
        by_cases hn0 : 0 < n
        · have n00 : (0 : Int) < (n : Int) := by omega
          obtain ⟨e1, e2, e3⟩ := HER.out L 10 (by decide) (by rw [HG.out, S2.out hA ⟨hz, .inr hn0⟩])
          have E1 : Hid (rdE s = 10) := e1
          have E2 : Hid (rdR s = ⟨#[]⟩) := e2
          have E3 : Hid (rdL s = []) := e3
          clear hn0 hc' e1 e2 e3 HG S1 S2 S3 S4 S5 HO HER hf hz hA hc
          have hsz := hB3.size
          generalize (k : Int) = K at *
          generalize (n : Int) = N at *
          go_wp2_with fail
          refine bodyPost_ret (v := .tuple #[.slice none 0 0, .string ⟨#[]⟩, .int .i64 10]) (by simp [results, Try.results11, go_sem]) rfl ⟨⟨_, by rw [E1.out, E2.out], by rw [E3.out]; exact Kls.nil _⟩, Bel.call hB3 (by go_grown)⟩
        · have n00 : n = 0 := by omega
          have S4' := S4.out hA (fun h => by omega) (by omega) hz
          have HC : Hid (decide (32768 ≤ k) = true) := hc
          have HY : Hid (((k % 32768 : Nat) : Int) = 0) := by show _ = _; omega
          rw [HC.out, HY.out] at S4'
          have hdrop : s.data.toList.drop (q + 4 + n) = (s.extract (q + 4) s.size).data.toList := by
            rw [ext_list, List.take_of_length_le (by rw [List.length_drop, len_list]; omega), n00, Nat.add_zero]
          have G5 : Hid (rdT s = (L ++ [⟨true, 0, s.extract (q + 4) (q + 4 + n)⟩], (s.extract (q + 4) s.size).data.toList, 0)) := by
            show _ = _
            rw [HG.out, S4', hdrop]
            rfl
          obtain ⟨K, hK⟩ : ∃ K, (k : Int) = K := ⟨_, rfl⟩
          have j3 : (q : Int) + 4 ≤ (s.size : Int) := by omega
          have j4 : (0 : Int) ≤ (s.size : Int) - (q : Int) - 4 := by omega
          have j5 : ¬ (s.size : Int) - (q : Int) - 4 < 0 := by omega
          have HN0 : Hid (n = 0) := n00
          clear S1 S2 S3 S4 S5 S4' HG HER hc'
          rw [hK] at hz9 c1 k0 k1 ⊢
          rw [show (n : Int) = 0 by omega] at j1 j2 n0 n1 ⊢
          clear hK hc hA hz hn0 n00 hdrop j1 n0 n1
          go_upto_region 15 with fail
          obtain ⟨B, hB'⟩ : ∃ B, ByteArray.empty = B := ⟨_, rfl⟩
          have hE' : s.extract (q + 4) (q + 4 + n) = ByteArray.empty := by
            rw [HN0.out, Nat.add_zero]
            apply ba_ext
            rw [ext_list, Nat.sub_self, List.take_zero]
            rfl
          rw [hE', hB'] at G5
          rw [hB']
          clear hE'
          have A1 := Arr.new w4 #[Value.bool true, .int .i64 0, .string B] 47 _ rfl _ 3 (keC_at ⟨true, 0, B⟩)
          have HOW : Hid ((w4.alloc (.cells #[.bool true, .int .i64 0, .string B] 47)).ownsRow w.heap.size 47 3 (.slice ao L.length cv) L.length (flK L)) := World.ownsRow.alloc HO.out _
          have hne : some w4.heap.size ≠ (Value.slice ao L.length cv).ownBlock := fun e => absurd (HO.out.lt _ e.symm).2 (Nat.lt_irrefl _)
          have B1 := Bel.al hB3 (.cells #[.bool true, .int .i64 0, .string B] 47)
          clear hB' HO hB3
          generalize w4.alloc (.cells #[.bool true, .int .i64 0, .string B] 47) = W at *
          have c0 := A1.cv 0 (by omega) (.bool true) rfl
          have c1 := A1.cv 1 (by omega) (.int .i64 0) rfl
          have c2 := A1.cv 2 (by omega) (.string B) rfl
          have kb : L.length + 1 ≤ maxLen := by unfold maxLen; omega
          have kb2 : (L.length + 1) * 32 ≤ 140737488355328 := by omega
          have hsz := B1.size
          have sb : ∀ ob, w.heap.size ≤ (W.alloc ob).heap.size := fun ob => by simp; omega
          go_wp2_with (at_builtin; refine stopAt ?_)
          unfold Stop
          refine wpList_append_own _ rfl _ _ 22 rfl w.heap.size 47 i0 (.agg #[.bool false, .int .i64 0, .string ⟨#[]⟩]) 3 32 Try.underlying22 hi hz0 hz1 hz2 rfl (by decide) _ _ _ rfl (World.ownsRow.alloc HOW.out _) ⟨W.heap.size, 0, none⟩ 1 1 [.bool true, .int .i64 0, .string B] rfl rfl (news_new W [.bool true, .int .i64 0, .string B] 47) (fun u hu => by simp at hu; rcases hu with rfl | rfl | rfl <;> rfl) kb kb2 (sb _) ?_
          intro v' w5 hown' hgrow3 hnil3
          have b5 : Below w.heap.size w w5 := (B1.alloc B1.size _).grown hgrow3 (by go_size) (fun q hq => (HOW.out.lt q hq).1)
          have A2 := arr_far (A1.al' _) hgrow3 hne
          have HO' : Hid (w5.ownsRow w.heap.size 47 3 v' (L.length + 1) (flK (L ++ [⟨true, 0, B⟩]))) := by
            show World.ownsRow _ _ _ _ _ _ _
            rw [flK_app]
            exact hown'
          have d1 := A2.cv 1 (by omega) (.int .i64 0) rfl
          clear hnil3 hgrow3 hown' hne A1 A2 HOW c0 c1 c2 B1 hsz sb
          go_wp2_with fail
          refine wp_region_quiet_below (by kernel_rfl) (by kernel_rfl) ?_
          repeat (go_big_quiet_step (fail))
          refine wpQuiet_nil ?_
          intro w6 hw'
          obtain ⟨⟨dq, osq⟩, hw''⟩ := hw'
          have hb := below_of hw''
          have HO6 : Hid (w6.ownsRow w.heap.size 47 3 v' (L.length + 1) (flK (L ++ [⟨true, 0, B⟩]))) := World.ownsRow.kept HO'.out (gby hb) (by cases hv : Value.ownBlock v' <;> simp)
          have B6 := Bel.call b5 hb
          clear hw'' hb HO' b5 d1
          go_wp2_with fail
          refine bodyPost_ret (v := .tuple #[v', .string (s.extract (q + 4) s.size), .int .i64 0]) (by simp [results, Try.results11, go_sem]) rfl ⟨⟨v', ?_, ?_⟩, B6⟩
          · unfold rdE rdR
            rw [G5.out]
            show _ = Ending.returned (.tuple #[v', .string (baL (s.extract (q + 4) s.size).data.toList), .int .i64 0])
            rw [baL_of]
          · unfold rdL
            rw [G5.out]
            exact Kls.own (b := w.heap.size) (by rw [List.length_append, List.length_singleton]; exact HO6.out)
      · obtain ⟨y, hy⟩ : ∃ y, (k : Int) % 32768 = y := ⟨_, rfl⟩
        have y0 : (y == 0) = false := by simp; omega
        have y1 : 0 ≤ y := by omega
        have y2 : y < 32768 := by omega
        by_cases hs2 : s.size < q + 4 + n
        · have j4 : (s.size : Int) - (q : Int) - 4 < (n : Int) := by omega
          obtain ⟨e1, e2, e3⟩ := HER.out L 11 (by decide) (by rw [HG.out, S3.out hA (fun h => hz h.1) hs2])
          have E1 : Hid (rdE s = 11) := e1
          have E2 : Hid (rdR s = ⟨#[]⟩) := e2
          have E3 : Hid (rdL s = []) := e3
          clear hc' hs2 e1 e2 e3 HG S1 S2 S3 S4 S5 HO HER hf hz hA hc
          have hsz := hB3.size
          generalize (k : Int) = K at *
          generalize (n : Int) = N at *
          go_wp2_with fail
          refine bodyPost_ret (v := .tuple #[.slice none 0 0, .string ⟨#[]⟩, .int .i64 11]) (by simp [results, Try.results11, go_sem]) rfl ⟨⟨_, by rw [E1.out, E2.out], by rw [E3.out]; exact Kls.nil _⟩, Bel.call hB3 (by go_grown)⟩
        · have j3 : (q : Int) + 4 + (n : Int) ≤ (s.size : Int) := by omega
          have j4 : ¬ (s.size : Int) - (q : Int) - 4 < (n : Int) := by omega
          obtain ⟨K, hK⟩ : ∃ K, (k : Int) = K := ⟨_, rfl⟩
          obtain ⟨N, hN⟩ : ∃ N, (n : Int) = N := ⟨_, rfl⟩
          have HNN : Hid ((n : Int) = N) := hN
          have HY : Hid (((k % 32768 : Nat) : Int) = y) := by show _ = _; rw [← hy]; omega
          have HC : Hid (decide (32768 ≤ k) = true) := hc
          have S5' := S5.out hA (fun h => hz h.1) hs2 hz
          rw [HC.out, HY.out] at S5'
          have G5 : Hid (rdT s = pre (L ++ [⟨true, y, s.extract (q + 4) (q + 4 + n)⟩]) (rdG f (s.data.toList.drop (q + 4 + n)) (q + 4 + n))) := by
            show _ = _
            rw [HG.out, S5', pre_pre]
          clear S1 S2 S3 S4 S5 S5' HG HER hc'
          rw [hK] at hy c1 k0 k1 ⊢
          rw [hN] at j1 j2 j3 j4 n0 n1 ⊢
          clear hK hN hc hA hz hs2
          go_upto_region 15 with fail
          rw [show ((q : Int) + 4 + N).toNat = q + 4 + n by have := HNN.out; omega]
          obtain ⟨B, hB'⟩ : ∃ B, s.extract (q + 4) (q + 4 + n) = B := ⟨_, rfl⟩
          rw [hB'] at G5 ⊢
          have A1 := Arr.new w4 #[Value.bool true, .int .i64 y, .string B] 47 _ rfl _ 3 (keC_at ⟨true, y, B⟩)
          have HOW : Hid ((w4.alloc (.cells #[.bool true, .int .i64 y, .string B] 47)).ownsRow w.heap.size 47 3 (.slice ao L.length cv) L.length (flK L)) := World.ownsRow.alloc HO.out _
          have hne : some w4.heap.size ≠ (Value.slice ao L.length cv).ownBlock := fun e => absurd (HO.out.lt _ e.symm).2 (Nat.lt_irrefl _)
          have B1 := Bel.al hB3 (.cells #[.bool true, .int .i64 y, .string B] 47)
          clear hB' HO hB3
          generalize w4.alloc (.cells #[.bool true, .int .i64 y, .string B] 47) = W at *
          have c0 := A1.cv 0 (by omega) (.bool true) rfl
          have c1 := A1.cv 1 (by omega) (.int .i64 y) rfl
          have c2 := A1.cv 2 (by omega) (.string B) rfl
          have kb : L.length + 1 ≤ maxLen := by unfold maxLen; omega
          have kb2 : (L.length + 1) * 32 ≤ 140737488355328 := by omega
          have hsz := B1.size
          have sb : ∀ ob, w.heap.size ≤ (W.alloc ob).heap.size := fun ob => by simp; omega
          go_wp2_with (at_builtin; refine stopAt ?_)
          unfold Stop
          refine wpList_append_own _ rfl _ _ 22 rfl w.heap.size 47 i0 (.agg #[.bool false, .int .i64 0, .string ⟨#[]⟩]) 3 32 Try.underlying22 hi hz0 hz1 hz2 rfl (by decide) _ _ _ rfl (World.ownsRow.alloc HOW.out _) ⟨W.heap.size, 0, none⟩ 1 1 [.bool true, .int .i64 y, .string B] rfl rfl (news_new W [.bool true, .int .i64 y, .string B] 47) (fun u hu => by simp at hu; rcases hu with rfl | rfl | rfl <;> rfl) kb kb2 (sb _) ?_
          intro v' w5 hown' hgrow3 hnil3
          have b5 : Below w.heap.size w w5 := (B1.alloc B1.size _).grown hgrow3 (by go_size) (fun q hq => (HOW.out.lt q hq).1)
          have A2 := arr_far (A1.al' _) hgrow3 hne
          have HO' : Hid (w5.ownsRow w.heap.size 47 3 v' (L.length + 1) (flK (L ++ [⟨true, y, B⟩]))) := by
            show World.ownsRow _ _ _ _ _ _ _
            rw [flK_app]
            exact hown'
          have d1 := A2.cv 1 (by omega) (.int .i64 y) rfl
          clear hnil3 hgrow3 hown' hne A1 A2 HOW c0 c1 c2 B1 hsz sb
          go_wp2_with fail
          refine ⟨⟨q + 4 + n, L ++ [⟨true, y, B⟩], congrArg (Value.int .i64) (by have := HNN.out; omega), by have := HNN.out; omega, by omega, by rw [List.length_append, List.length_singleton]; omega, by rw [List.length_append, List.length_singleton]; exact HO'.out, ?_, b5⟩, ?_⟩
          · show _ = _
            rw [List.length_append, List.length_singleton, show 513 - (L.length + 1) = f by omega]
            exact G5.out
          · have := HNN.out
            simp [intOf]; omega
end Go.Proofs.Ytndfcecimckioaa
