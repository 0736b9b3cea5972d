/- The program: next as a function; the iterator. -/
import Derived.Test.YtndfcecimckioaaPD
set_option linter.all false
set_option maxRecDepth 100000
namespace Go.Proofs.Ytndfcecimckioaa
open Go.RowKit Go.Shelf Go.Sort
attribute [local go_sem] Oper.semAt_some
/-- What next tells at a place. -/
def nxE (s : ByteArray) (q : Nat) : Int :=
  if ¬ q + 4 ≤ s.size then 11
  else if 1024 < bt s (q + 2) * 256 + bt s (q + 3) ∨ 2048 < (q : Int) + 4 + (bt s (q + 2) * 256 + bt s (q + 3)) then 12
  else if (bt s q * 256 + bt s (q + 1)) % 32768 = 0 ∧ (bt s q * 256 + bt s (q + 1) < 32768 ∨ 0 < bt s (q + 2) * 256 + bt s (q + 3)) then 10
  else if (s.size : Int) < (q : Int) + 4 + (bt s (q + 2) * 256 + bt s (q + 3)) then 11 else 0
def nxR (s : ByteArray) (q : Nat) : Ke :=
  if nxE s q = 0 then ⟨decide (32768 ≤ bt s q * 256 + bt s (q + 1)), (bt s q * 256 + bt s (q + 1)) % 32768, s.extract (q + 4) (q + 4 + (bt s (q + 2) * 256 + bt s (q + 3)).toNat)⟩ else zK
theorem ex_ex (s : ByteArray) (q M : Nat) (h : q + 4 + M ≤ s.size) : (s.extract q s.size).extract 4 (4 + M) = s.extract (q + 4) (q + 4 + M) := by
  rw [ByteArray.extract_extract]
  congr 1 <;> omega
theorem next_any (s : ByteArray) (q : Nat) (hq : q ≤ s.size) (hq2 : q ≤ 2048) (hs : s.size ≤ 281474976710656) (w : World) :
    Calls Try.prog 34 #[.string s, .int .i64 (q : Int)] w fun e w' => e = .returned (.tuple #[keV (nxR s q), .int .i64 (nxE s q)]) ∧ Below w.heap.size w w' := by
  have hz : (s.extract q s.size).size = s.size - q := by rw [ByteArray.size_extract]; omega
  have bad : nxE s q ≠ 0 → nxR s q = zK := fun h => by unfold nxR; rw [if_neg h]
  have b4 := bt_bd s (q + 2)
  have b5 := bt_bd s (q + 3)
  refine next_core s (s.extract q s.size) q (bt s q * 256 + bt s (q + 1)) (bt s (q + 2) * 256 + bt s (q + 3)) (nxR s q) (nxE s q) hq hq2 hs rfl w (fun h => ?_) (fun h => ?_) (fun h a => ?_) (fun h a b => ?_) (fun h a b c => ?_) (fun h a b c => ?_)
  · have e : nxE s q = 11 := by unfold nxE; rw [if_pos (by omega)]
    exact ⟨e, bad (by rw [e]; decide)⟩
  · rw [bt_ext s q s.size 0 (by omega) (Nat.le_refl _), bt_ext s q s.size 1 (by omega) (Nat.le_refl _), bt_ext s q s.size 2 (by omega) (Nat.le_refl _), bt_ext s q s.size 3 (by omega) (Nat.le_refl _)]
    exact ⟨rfl, rfl⟩
  · have e : nxE s q = 12 := by unfold nxE; rw [if_neg (by omega), if_pos a]
    exact ⟨e, bad (by rw [e]; decide)⟩
  · have e : nxE s q = 10 := by unfold nxE; rw [if_neg (by omega), if_neg a, if_pos b]
    exact ⟨e, bad (by rw [e]; decide)⟩
  · have e : nxE s q = 11 := by unfold nxE; rw [if_neg (by omega), if_neg a, if_neg b, if_pos (by omega)]
    exact ⟨e, bad (by rw [e]; decide)⟩
  · have e : nxE s q = 0 := by unfold nxE; rw [if_neg (by omega), if_neg a, if_neg b, if_neg (by omega)]
    refine ⟨e, ?_⟩
    unfold nxR
    rw [if_pos e]
    rw [ex_ex s q _ (by omega)]
abbrev ItK : Type := Ke × Int
abbrev encK (x : ItK) : Array Value := #[keV x.1, .int .i64 x.2]
def ksI (pre : List ItK) : List Ke := pre.map (·.1)
/-- The item behind pre. -/
def MkK (s : ByteArray) (pre : List ItK) (x : ItK) : Prop := tot (ksI pre) ≤ s.size ∧ tot (ksI pre) ≤ 2048 ∧ x.1 = nxR s (tot (ksI pre)) ∧ x.2 = nxE s (tot (ksI pre))
theorem nx_sz (s : ByteArray) (q : Nat) (h : nxE s q = 0) : q + 4 + (nxR s q).s.size ≤ s.size ∧ q + 4 + (nxR s q).s.size ≤ 2048 ∧ (nxR s q).s.size ≤ 1024 := by
  have e : nxR s q = ⟨decide (32768 ≤ bt s q * 256 + bt s (q + 1)), (bt s q * 256 + bt s (q + 1)) % 32768, s.extract (q + 4) (q + 4 + (bt s (q + 2) * 256 + bt s (q + 3)).toNat)⟩ := by unfold nxR; rw [if_pos h]
  rw [e]
  show q + 4 + (s.extract _ _).size ≤ _ ∧ q + 4 + (s.extract _ _).size ≤ _ ∧ (s.extract _ _).size ≤ _
  rw [ByteArray.size_extract]
  have b4 := bt_bd s (q + 2)
  have b5 := bt_bd s (q + 3)
  unfold nxE at h
  split at h
  · cases h
  split at h
  · cases h
  split at h
  · cases h
  split at h
  · cases h
  omega
end Go.Proofs.Ytndfcecimckioaa
