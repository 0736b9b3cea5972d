/- Numbers by 7 bits in a byte. -/
import Derived.Test.YtajdfjpcobaioaaGreatDoorD1
import Derived.Test.YtajdfjpcobaioaaGreatDoorM1
import Derived.OwnWalk
set_option linter.all false
set_option maxRecDepth 100000
namespace Go.Proofs.YtajdfjpcobaioaaGreatDoor
open Go.RowKit Go.Sort
def msF (x : Int) : Int := if x = 2 then 47 else 39
theorem mostSecond_any (x : Int) (w : World) : Calls Tryz.prog 22 #[.int .u32 x] w fun e w' => e = .returned (.int .u32 (msF x)) ∧ Below w.heap.size w w' := by
  unfold msF
  by_cases c : x = 2
  · subst c
    go_enter Tryz.func22, Tryz.ntmps22
    go_wp2_with fail
    go_ret
    exact ⟨rfl, by go_grown⟩
  · rw [if_neg c]
    go_enter Tryz.func22, Tryz.ntmps22
    go_wp2_with fail
    go_ret
    exact ⟨rfl, by go_grown⟩
def rvN (n : Nat) (f : Nat → Int) (k m : Nat) : Int := if m < k ∨ n ≤ m + k then f (n - 1 - m) else f m
theorem reverse_any (b cap n : Nat) (hn : n ≤ 100) (f : Nat → Int) (w : World) (hA : Arr w b n (fun m => .int .u8 (f m))) :
    Calls Tryz.prog 52 #[.slice (some ⟨b, 0, none⟩) n cap] w fun e w' => (∃ v, e = .returned v) ∧ Below b w w' ∧ w'.heap.size = w.heap.size ∧ Arr w' b n (fun m => .int .u8 (f (n - 1 - m))) := by
  have n0 : (0 : Int) ≤ (n : Int) := by omega
  have n1 : (n : Int) ≤ 100 := by omega
  go_enter Tryz.func52, Tryz.ntmps52
  go_wp2_with fail
  go_loopw [2, 3] (fun i j wr => ∃ k : Nat, 2 * k ≤ n + 1 ∧ i = .int .i64 k ∧ j = .int .i64 ((n : Int) - 1 - (k : Int)) ∧ Below b w wr ∧ wr.heap.size = w.heap.size ∧ Arr wr b n (fun m => .int .u8 (rvN n f k m)))
    (fun i _ _ => n - (intOf i).toNat)
  case atStart => exact ⟨0, by omega, rfl, by simp, Below.refl _ _, rfl, hA.congr (by intro j hj; unfold rvN; rw [if_neg (by omega)])⟩
  case round =>
    clear hA
    obtain ⟨k, hk, rfl, rfl, hB, hS, hA⟩ := hrel
    by_cases hlt : (k : Int) < (n : Int) - 1 - (k : Int)
    · have k0 : (0 : Int) ≤ (k : Int) := by omega
      obtain ⟨q, hq⟩ : ∃ q : Nat, (n : Int) - 1 - (k : Int) = (q : Int) := ⟨n - 1 - k, by omega⟩
      rw [hq]
      rw [hq] at hlt
      have k32 : (k : Int) < (n : Int) := by omega
      have q0 : (0 : Int) ≤ (q : Int) := by omega
      have q32 : (q : Int) < (n : Int) := by omega
      have qk : q = n - 1 - k := by omega
      have rk : wr.cell? ⟨b, k, none⟩ = some (.int .u8 (f k)) := by
        have := hA.c k (by omega); unfold rvN at this; rw [if_neg (by omega)] at this; exact this
      have rq : wr.cell? ⟨b, q, none⟩ = some (.int .u8 (f q)) := by
        have := hA.c q (by omega); unfold rvN at this; rw [if_neg (by omega)] at this; exact this
      have zk := hA.z k (by omega)
      have zq := hA.z q (by omega)
      have nkq : ¬ k = q := by omega
      have nqk : ¬ q = k := by omega
      have st : Arr ((wr.setCell ⟨b, k, none⟩ (.int .u8 (f q))).setCell ⟨b, q, none⟩ (.int .u8 (f k))) b n (fun m => .int .u8 (rvN n f (k + 1) m)) := by
        refine ((hA.set k (by omega) (.int .u8 (f q))).set q (by omega) (.int .u8 (f k))).congr ?_
        intro m hm
        unfold rvN
        by_cases e1 : m = q
        · rw [if_pos e1, if_pos (by omega), show n - 1 - m = k by omega]
        · rw [if_neg e1]
          by_cases e2 : m = k
          · rw [if_pos e2, if_pos (by omega), show n - 1 - m = q by omega]
          · rw [if_neg e2]
            by_cases e3 : m < k ∨ n ≤ m + k
            · rw [if_pos e3, if_pos (by omega)]
            · rw [if_neg e3, if_neg (by omega)]
      have sB : Below b w ((wr.setCell ⟨b, k, none⟩ (.int .u8 (f q))).setCell ⟨b, q, none⟩ (.int .u8 (f k))) := (hB.setCell (by show _ ≤ b; omega) _).setCell (by show _ ≤ b; omega) _
      have HK : Hid (q = n - 1 - k ∧ (k : Int) < (q : Int)) := ⟨qk, hlt⟩
      clear qk hA hB hq
      go_wp2_with fail
      go_region
      go_wp2_with fail
      have hk2 := HK.out
      exact ⟨⟨k + 1, by omega, by go_num, by congr 1; omega, sB.drew, by simp only [World.size_drew, size_set]; exact hS, st.drew⟩, by simp [intOf]; omega⟩
    · have e : 2 * k + 1 = n + 0 ∨ 2 * k = n ∨ 2 * k = n + 1 := by omega
      have fin : Arr wr b n (fun m => .int .u8 (f (n - 1 - m))) := hA.congr (fun m hm => by
        unfold rvN
        by_cases c : m < k ∨ n ≤ m + k
        · rw [if_pos c]
        · rw [if_neg c, show n - 1 - m = m by omega])
      clear hA e
      go_wp2_with fail
      go_end0
      exact ⟨⟨_, rfl⟩, hB, hS, fin⟩
/-- The bytes behind the lowest one, the lowest first. -/
def svT : Nat → Int → List Int
  | 0, _ => []
  | f + 1, m => if m = 0 then [] else (128 + m % 128) :: svT f (m / 128)
/-- All bytes, the highest first. -/
def svL (n : Int) : List Int := (n % 128 :: svT 4 (n / 128)).reverse
theorem svT_0 (f : Nat) : svT f 0 = [] := by cases f <;> rfl
theorem svT_len (f : Nat) : ∀ m, (svT f m).length ≤ f := by
  induction f with
  | zero => intro m; exact Nat.le_refl _
  | succ f ih =>
    intro m
    rw [svT]
    split
    · simp
    · have := ih (m / 128); simp; omega
theorem svT_bys (f : Nat) : ∀ m, Bys (svT f m) := by
  induction f with
  | zero => intro m x hx; cases hx
  | succ f ih =>
    intro m
    rw [svT]
    split
    · intro x hx; cases hx
    · exact Bys.cons (by omega) (ih _)
theorem svL_bys (n : Int) : Bys (svL n) := fun x hx => by
  unfold svL at hx
  rw [List.mem_reverse] at hx
  exact Bys.cons (by omega) (svT_bys 4 _) x hx
theorem svL_len (n : Int) : 1 ≤ (svL n).length ∧ (svL n).length ≤ 5 := by
  unfold svL
  have := svT_len 4 (n / 128)
  rw [List.length_reverse, List.length_cons]
  omega
theorem own_arr {W : World} {b g n c : Nat} {ns : List Int} (hl : ns.length = n) (h : W.ownsRow b 5 1 (.slice (some ⟨g, 0, none⟩) n c) n (ns.map (Value.int .u8))) : b ≤ g ∧ g < W.heap.size ∧ Arr W g n (fun j => .int .u8 (ns.getD j 0)) := by
  have hc := World.ownsRow.cells h rfl
  rcases h.2 with ⟨h2, _⟩ | ⟨g', cap, cur, hv, hb, hg, _⟩
  · cases h2
  · cases hv
    refine ⟨hb, ?_, fun j hj => ⟨?_, ?_⟩⟩
    · rcases Nat.lt_or_ge g W.heap.size with c | c
      · exact c
      · rw [Array.getElem?_eq_none c] at hg; cases hg
    · have := hc j (.int .u8 (ns.getD j 0)) (by rw [List.getElem?_map, List.getD_eq_getElem?_getD, List.getElem?_eq_getElem (by omega)]; rfl)
      rw [Addr.add_mid, Nat.zero_add] at this
      exact this
    · simp [World.frozen?, hg]
set_option maxHeartbeats 2000000 in
theorem sevens_any (n : Int) (n0 : 0 ≤ n) (n1 : n < 4294967296) (w : World) : Calls Tryz.prog 23 #[.int .u32 n] w fun e w' => (∃ g c, e = .returned (.slice (some ⟨g, 0, none⟩) (svL n).length c) ∧ w.heap.size ≤ g ∧ Arr w' g (svL n).length (fun j => .int .u8 ((svL n).getD j 0))) ∧ Below w.heap.size w w' := by
  obtain ⟨i0, hi, hz0, hz1, hz2⟩ := info_parts Tryz.info5
  have e1 : n % 128 % 256 = n % 128 := by omega
  have own0 : (w.alloc (.cells #[.int .u8 (n % 128)] 5)).ownsRow w.heap.size 5 1 (.slice (some ⟨w.heap.size, 0, none⟩) 1 1) 1 ([n % 128].map (Value.int .u8)) :=
    ⟨rfl, .inr ⟨w.heap.size, 1, #[.int .u8 (n % 128)], rfl, Nat.le_refl _, Array.getElem?_push_size, by omega, by unfold maxLen; omega, rfl, rfl⟩⟩
  go_enter Tryz.func23, Tryz.ntmps23
  go_wp2_with fail
  go_loopw [0, 3] (fun s v wr => ∃ (m : Int) (f : Nat) (L : List Int), s = .int .u32 m ∧ 0 ≤ m ∧ m < 128 ^ f ∧ m < 4294967296 ∧ L.length + f = 5 ∧ 1 ≤ L.length ∧ wr.ownsRow w.heap.size 5 1 v L.length (L.map (Value.int .u8)) ∧ n % 128 :: svT 4 (n / 128) = L ++ svT f m ∧ Below w.heap.size w wr)
    (fun s _ _ => (intOf s).toNat)
  case atStart => exact ⟨n / 128, 4, [n % 128], rfl, by omega, by rw [show (128 : Int) ^ 4 = 268435456 by decide]; omega, by omega, rfl, by simp, own0, rfl, by go_grown⟩
  case round =>
    clear own0
    obtain ⟨m, f, L, rfl, m0, m1, m2, hlen, hl1, hown, hL, hB⟩ := hrel
    by_cases hlt : 0 < m
    · obtain ⟨f, rfl⟩ : ∃ f', f = f' + 1 := by
        cases f with
        | zero => simp at m1; omega
        | succ f => exact ⟨f, rfl⟩
      have HL : Hid (n % 128 :: svT 4 (n / 128) = (L ++ [128 + m % 128]) ++ svT f (m / 128)) := by
        show _ = _
        rw [hL, svT, if_neg (by omega), List.append_assoc]; rfl
      have HP : Hid (m / 128 < 128 ^ f) := by
        show _ < _
        rw [Int.pow_succ] at m1; omega
      have q1 : (128 + m % 128) % 256 = 128 + m % 128 := by omega
      obtain ⟨ao, cv, hv⟩ := own_form hown
      subst hv
      have kb : L.length + 1 ≤ maxLen := by unfold maxLen; omega
      have kb2 : (L.length + 1) * 1 ≤ 140737488355328 := by omega
      have hs := hB.size
      have sb : ∀ ob, w.heap.size ≤ (wr.alloc ob).heap.size := fun ob => by simp; omega
      have HO : Hid (wr.ownsRow w.heap.size 5 1 (.slice ao L.length cv) L.length (L.map (Value.int .u8))) := hown
      have HLn : Hid (L.length + (f + 1) = 5) := hlen
      clear hL hown hlen m1
      go_wp2_with (at_builtin; refine stopAt ?_)
      unfold Stop
      refine wpList_append_own _ rfl _ _ 51 rfl w.heap.size 5 i0 (.int .u8 0) 1 1 Tryz.underlying51 hi hz0 hz1 hz2 rfl (by decide) _ _ _ rfl (World.ownsRow.alloc HO.out _) ⟨_, 0, none⟩ 1 1 [.int .u8 (128 + m % 128)] rfl rfl (news_new _ _ _) (fun u hu => by simp at hu; subst hu; rfl) kb kb2 (sb _) ?_
      intro v' w3 hown' hgrow3 hnil3
      have b3 : Below w.heap.size w w3 := (hB.alloc hB.size _).grown hgrow3 (by go_size) (fun q hq => (HO.out.lt q hq).1)
      clear hnil3 hgrow3
      have HO' : Hid (w3.ownsRow w.heap.size 5 1 v' (L ++ [128 + m % 128]).length ((L ++ [128 + m % 128]).map (Value.int .u8))) := by
        show World.ownsRow _ _ _ _ _ _ _
        rw [List.length_append, List.map_append]
        exact hown'
      clear hown'
      go_wp2_with fail
      refine ⟨⟨m / 128, f, L ++ [128 + m % 128], by go_num, by omega, HP.out, by omega, ?_, by simp, HO'.out, HL.out, b3⟩, by simp [intOf]; omega⟩
      have := HLn.out
      simp; omega
    · obtain rfl : m = 0 := by omega
      rw [svT_0, List.append_nil] at hL
      obtain ⟨g, c, hv⟩ := own_some hown (by omega)
      subst hv
      obtain ⟨g0, g1, AL⟩ := own_arr rfl hown
      have hb : svL n = L.reverse := by unfold svL; rw [hL]
      have C := reverse_any g c L.length (by omega) (fun j => L.getD j 0) wr AL
      have HR : Hid (svL n = L.reverse) := hb
      clear hown hL hb m1 m2 m0
      generalize hk : L.length = k at *
      have HK : Hid (L.length = k) := hk
      clear hk
      go_wp2_with (go_at_call 52; refine C.mono ?_; rintro e w1 ⟨⟨v, rfl⟩, hb1, hs1, hA1⟩)
      go_ret
      refine ⟨⟨g, c, ?_, g0, ?_⟩, ?_⟩
      · rw [HR.out, List.length_reverse, HK.out]; rfl
      · rw [HR.out, List.length_reverse, HK.out]
        refine hA1.congr (fun j hj => ?_)
        have := HK.out
        rw [List.getD_eq_getElem?_getD, List.getD_eq_getElem?_getD, List.getElem?_reverse (by omega), this]
      · exact hB.trans (hb1.mono g0)
end Go.Proofs.YtajdfjpcobaioaaGreatDoor
