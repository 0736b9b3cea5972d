/- The reference's Fit of any message. -/
import Derived.Test.YtjdpeedghpblgaaGreatDoorJ6
set_option linter.all false
set_option maxRecDepth 100000
namespace Go.Proofs.YtjdpeedghpblgaaGreatDoor
open Go.RowKit Go.Sort
theorem kd_cases {k : Int} (hk : kdB k = true) : k = 1 ∨ k = 2 ∨ k = 8 ∨ k = 11 ∨ k = 15 ∨ k = 20 := by
  unfold kdB at hk
  simp only [Bool.or_eq_true, beq_iff_eq] at hk
  omega
theorem onM_cs0 (m : Mg) (h : m = onM m) (hk : m.k ≠ 11) : m.cs = [] := by
  have := congrArg Mg.cs h
  rw [this]
  unfold onM
  repeat' split
  all_goals first | rfl | contradiction
theorem rFit_any (m : Mg) (hm : m.ok) (u : Value) (z1 : m.cs.length ≤ 9223372036854775807) (y1 : ∀ t ∈ m.cs, t.size ≤ maxLen) (hz : m.nm.size ≤ maxLen) (w : World) (hu : Txs w u m.cs) :
    Calls Tryz.prog 13 #[m.v u] w fun e w' => e = .returned (.bool (ftB m)) ∧ Below w.heap.size w w' := by
  obtain ⟨a0, c, e, f1⟩ := hu.form
  subst e
  unfold ftB
  cases hk : kdB m.k
  · exact rFit_unk m m.k rfl a0 _ c w (known_b _ _ hk)
  have CO := fun W => ronly_any m hk a0 m.cs.length c W
  rw [Mg.v_l (onM m)] at CO
  have CS := fun (W : World) (hb : Below w.heap.size w W) => rSame_any m (onM m) hm (onM_ok m hm) _ _ z1 y1 (fun t ht => by
    rcases onM_cs m with h | h
    · rw [h] at ht; exact y1 t ht
    · rw [h] at ht; cases ht) W (hu.to hb) ((onV_txs m _ hu hk).to hb)
  rw [Mg.v_l (onM m)] at CS
  generalize (onM m).l (onV m (.slice a0 m.cs.length c)) = N at CO CS
  cases hs : smB m (onM m)
  · rw [hs] at CS
    exact rFit_not m m.k rfl a0 _ c N w (known_b _ _ hk) CO CS
  have he := (smB_iff _ _).1 hs
  rw [hs] at CS
  have no : m.k ≠ 11 → m.cs.length = 0 := fun h => by rw [onM_cs0 m he h]; rfl
  rcases kd_cases hk with h | h | h | h | h | h
  · exact rFit_1 m h a0 _ c N w (no (by omega)) hz (known_b _ _ (h ▸ hk)) CO CS
  · exact rFit_2 m h a0 _ c N w (no (by omega)) (known_b _ _ (h ▸ hk)) CO CS
  · exact rFit_8 m h a0 _ c N w (no (by omega)) (known_b _ _ (h ▸ hk)) CO CS
  · exact rFit_11 m h a0 _ c N w rfl f1 (known_b _ _ (h ▸ hk)) CO CS
  · exact rFit_15 m h a0 _ c N w (no (by omega)) (known_b _ _ (h ▸ hk)) CO CS
  · exact rFit_20 m h a0 _ c N w (no (by omega)) (known_b _ _ (h ▸ hk)) CO CS
end Go.Proofs.YtjdpeedghpblgaaGreatDoor
