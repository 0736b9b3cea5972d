/- DerAgain: all put together. -/
import Derived.Test.YtajdfjpcobaioaaDoorL3
import Derived.Test.YtajdfjpcobaioaaDoorD21
set_option linter.all false
set_option maxRecDepth 100000
namespace Go.Proofs.YtajdfjpcobaioaaDoor
open Go.RowKit Go.Sort
theorem again_walk (N : Int) (l : List Int) (t : Int) (s : ByteArray) (v : Value) (w : World) (n0 : 0 ≤ N) (n1 : N < top256) (hl : Wds w v l) (hm : l.length ≤ maxLen) (hb : ∀ x ∈ l, 0 ≤ x ∧ x < 4294967296) (hc : ∀ a n c, v = .slice (some a) n c → c ≤ maxLen) (hs : s.size ≤ maxLen) (hT : Tab w) :
    Calls Tryd.prog 5 #[nv N, v, .int .i64 t, .string s] w fun e w' => e = .returned (.bool true) ∧ Below w.heap.size w w' := by
  have ib := int_back N n0 n1
  have zN : (mkS (inL N)).size ≤ maxLen := by
    rw [mkS_size]
    have : (inL N).length ≤ 33 := by
      unfold inL iL
      have := dz_len N
      split <;> simp <;> omega
    unfold maxLen; omega
  have TA := fun W => toInt_yes (mkS (inL N)) zN ib.1 W
  rw [ib.2] at TA
  obtain ⟨b0, b1, b2, b3, e1, TS, IS⟩ : ∃ (b0 b1 b2 b3 e1 : Int), (∀ W, Calls Tryd.prog 17 #[.string s] W fun e w' => e = .returned (.tuple #[.agg #[.int .u64 b0, .int .u64 b1, .int .u64 b2, .int .u64 b3], .int .i64 e1]) ∧ Below W.heap.size W w') ∧ (e1 = 0 → ∀ W, Calls Tryd.prog 18 #[.agg #[.int .u64 b0, .int .u64 b1, .int .u64 b2, .int .u64 b3]] W fun e w' => e = .returned (.string s) ∧ Below W.heap.size W w') := by
    by_cases h : tiE (sL s) = 0
    · have bk := back_int s h
      refine ⟨_, _, _, _, 0, fun W => toInt_yes s hs h W, fun _ W => ?_⟩
      have := int_any _ bk.1 bk.2.1 W
      rw [bk.2.2] at this
      exact this
    · exact ⟨0, 0, 0, 0, _, fun W => toInt_no s hs h W, fun h2 => absurd h2 h⟩
  obtain ⟨O, e2, OL, TO⟩ : ∃ (O : ByteArray) (e2 : Int), (∀ W, Below w.heap.size w W → Calls Tryd.prog 19 #[v] W fun e w' => e = .returned (.tuple #[.string O, .int .i64 e2]) ∧ Below W.heap.size W w') ∧ (e2 = 0 → ∀ W, Calls Tryd.prog 20 #[.string O] W fun e w' => (∃ m, e = .returned (.tuple #[m, .int .i64 0]) ∧ Wds w' m l) ∧ Below W.heap.size W w') := by
    have A := fun W (hW : Below w.heap.size w W) => oid_any v l W (hl.to hW) hm hb hc
    unfold oidR at A
    by_cases h : oidE l = 0
    · rw [if_pos h] at A
      obtain ⟨hby, ht⟩ := oid_to l hb h
      have hl16 : l.length ≤ 16 := by
        unfold oidE at h
        split at h
        · exact absurd h (by decide)
        split at h
        · exact absurd h (by decide)
        · omega
      refine ⟨_, 0, A, fun _ W => ?_⟩
      have sz : (mkS (oidL l)).size ≤ maxLen := by
        rw [mkS_size]
        have key : ∀ ls : List Int, (ls.flatMap svL).length ≤ 5 * ls.length := fun ls => by
          induction ls with
          | nil => simp
          | cons x ls ih => have := svL_len x; rw [List.flatMap_cons, List.length_append, List.length_cons]; omega
        have := key (l.drop 2)
        unfold oidL
        rw [List.length_cons]
        rw [List.length_drop] at this
        unfold maxLen
        omega
      refine (toOid_any (mkS (oidL l)) sz W).mono ?_
      rw [sL_mkS _ hby, ht]
      rintro e w' ⟨⟨m, rfl, hw, _⟩, hbl⟩
      exact ⟨⟨m, rfl, hw⟩, hbl⟩
    · rw [if_neg h] at A
      exact ⟨_, _, A, fun h2 => absurd h2 h⟩
  have T : ∃ (X : ByteArray) (e4 : Int), (∀ W, Tab W → Calls Tryd.prog 22 #[.int .i64 t] W fun e w' => e = .returned (.tuple #[.string X, .int .i64 e4]) ∧ Below W.heap.size W w') ∧ (e4 = 0 → ∀ W, Calls Tryd.prog 23 #[.string X] W fun e w' => e = .returned (.tuple #[.int .i64 t, .int .i64 0]) ∧ Below W.heap.size W w') := by
    by_cases c : LT ≤ t ∧ t ≤ MT
    · obtain ⟨k, hk⟩ := tim_ok t c.1 c.2
      refine ⟨_, 0, fun W hW => time_yes t c.1 c.2 W hW, fun _ W => ?_⟩
      have := toTime_yes _ k W
      rw [hk] at this
      exact this
    · exact ⟨_, 13, fun W _ => time_no t (by unfold LT MT at c; omega) W, fun h => absurd h (by decide)⟩
  obtain ⟨X, e4, T1, T2⟩ := T
  have U : ∃ (u : Int) (e5 : Int), (∀ W, Calls Tryd.prog 23 #[.string s] W fun e w' => e = .returned (.tuple #[.int .i64 u, .int .i64 e5]) ∧ Below W.heap.size W w') ∧ (e5 = 0 → ∀ W, Tab W → Calls Tryd.prog 22 #[.int .i64 u] W fun e w' => e = .returned (.tuple #[.string s, .int .i64 0]) ∧ Below W.heap.size W w') := by
    by_cases c : ttOk s
    · obtain ⟨p0, p1, p2⟩ := ok_tim s c
      refine ⟨_, 0, fun W => toTime_yes s c W, fun _ W hW => ?_⟩
      have := time_yes _ p0 p1 W hW
      rw [p2] at this
      exact this
    · exact ⟨0, 10, fun W => toTime_no s hs c W, fun h => absurd h (by decide)⟩
  obtain ⟨u, e5, T3, T4⟩ := U
  refine again_core (lim N 0) (lim N 1) (lim N 2) (lim N 3) b0 b1 b2 b3 t u e1 e2 (toO (sL s)).2 e4 e5 v l (if (toO (sL s)).2 = 0 then (toO (sL s)).1 else []) (mkS (inL N)) s O X w hT (fun W => by rw [eq24]; simp) (fun W => int_any N n0 n1 W) TA TS IS OL TO (fun m W hW hwm => ?_) (fun W => toOid_any s hs W) (fun h m W hwm hcm => ?_) T1 T2 T3 T4 (fun W h => awake_any W h)
  · exact words_same m v l hm W hwm (hl.to hW)
  · rw [if_pos h] at hwm
    obtain ⟨q1, q2, q3, q4⟩ := to_oid (sL s) (toO (sL s)).1 (sL_bys s) (by rw [← h])
    have := oid_any m (toO (sL s)).1 W hwm (by unfold maxLen; omega) q4 hcm
    unfold oidR at this
    rw [if_pos q1, q2, mkS_sL] at this
    exact this
end Go.Proofs.YtajdfjpcobaioaaDoor
