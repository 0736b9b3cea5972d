/- The chapter's examples. -/
import Derived.Test.YtajdfjpcobaioaaGreatDoorD2
import Derived.Test.YtajdfjpcobaioaaGreatDoorD10
import Derived.Test.YtajdfjpcobaioaaGreatDoorD13
import Derived.Test.YtajdfjpcobaioaaGreatDoorD14
set_option linter.all false
set_option maxRecDepth 100000
namespace Go.Proofs.YtajdfjpcobaioaaGreatDoor
open Go.RowKit Go.Sort
theorem aw_w : wrS 2 ⟨#[5]⟩ = ⟨#[2, 1, 5]⟩ := by apply ba_ext; rfl
theorem aw_o : mkS (oidL [1, 2, 840, 10045]) = ⟨#[42, 134, 72, 206, 61]⟩ := by
  rw [show oidL [1, 2, 840, 10045] = [42, 134, 72, 206, 61] by decide +kernel]; apply ba_ext; rfl
theorem aw_t : mkS (timL 0) = ⟨#[49, 57, 55, 48, 48, 49, 48, 49, 48, 48, 48, 48, 48, 48, 90]⟩ := by
  rw [show timL 0 = [49, 57, 55, 48, 48, 49, 48, 49, 48, 48, 48, 48, 48, 48, 90] by decide +kernel]; apply ba_ext; rfl
theorem aw_i : mkS (inL 200) = ⟨#[0, 200]⟩ := by
  rw [show inL 200 = [0, 200] by decide +kernel]; apply ba_ext; rfl
theorem nv_200 : nv 200 = .agg #[.int .u64 200, .int .u64 0, .int .u64 0, .int .u64 0] := by
  unfold nv; rw [show lim 200 0 = 200 by decide +kernel, show lim 200 1 = 0 by decide +kernel, show lim 200 2 = 0 by decide +kernel, show lim 200 3 = 0 by decide +kernel]
theorem awake_core (A B C D : ByteArray) (a : A = ⟨#[2, 1, 5]⟩) (b : B = ⟨#[42, 134, 72, 206, 61]⟩) (c : C = ⟨#[49, 57, 55, 48, 48, 49, 48, 49, 48, 48, 48, 48, 48, 48, 90]⟩) (d : D = ⟨#[0, 200]⟩)
    (CW : ∀ W, Calls Tryz.prog 40 #[.agg #[.int .i64 2, .string ⟨#[5]⟩]] W fun e w' => e = .returned (.tuple #[.string A, .int .i64 0]) ∧ Below W.heap.size W w')
    (CO : ∀ W W' : World, W' = W.alloc (.cells #[.int .u32 1, .int .u32 2, .int .u32 840, .int .u32 10045] 52) → Calls Tryz.prog 6 #[.slice (some ⟨W.heap.size, 0, none⟩) 4 4] W' fun e w' => e = .returned (.tuple #[.string B, .int .i64 0]) ∧ Below W'.heap.size W' w')
    (CT : ∀ W, Tab W → Calls Tryz.prog 10 #[.int .i64 0] W fun e w' => e = .returned (.tuple #[.string C, .int .i64 0]) ∧ Below W.heap.size W w')
    (CI : ∀ W, Calls Tryz.prog 14 #[.agg #[.int .u64 200, .int .u64 0, .int .u64 0, .int .u64 0]] W fun e w' => e = .returned (.string D) ∧ Below W.heap.size W w') (w : World) (hT : Tab w) :
    Calls Tryz.prog 17 #[] w fun e w' => e = .returned (.bool true) ∧ Below w.heap.size w w' := by
  subst a; subst b; subst c; subst d
  go_enter Tryz.func17, Tryz.ntmps17
  go_wp2_with fail
  refine (CW _).mono ?_
  rintro e w1 ⟨rfl, hB⟩
  go_wp2_with fail
  refine (CO w1 _ rfl).mono ?_
  rintro e w2 ⟨rfl, hb⟩
  replace hB := Bel.call (Bel.al hB _) hb
  clear hb
  go_wp2_with fail
  refine (CT _ (hT.to hB)).mono ?_
  rintro e w3 ⟨rfl, hb⟩
  replace hB := Bel.call hB hb
  clear hb
  go_wp2_with fail
  refine (CI _).mono ?_
  rintro e w4 ⟨rfl, hb⟩
  replace hB := Bel.call hB hb
  clear hb
  go_wp2_with fail
  go_ret
  exact ⟨rfl, hB⟩
theorem awake_any (w : World) (hT : Tab w) : Calls Tryz.prog 17 #[] w fun e w' => e = .returned (.bool true) ∧ Below w.heap.size w w' := by
  refine awake_core _ _ _ _ aw_w aw_o aw_t aw_i (fun W => write_yes 2 ⟨#[5]⟩ (by decide) W) (fun W W' hW => ?_) (fun W hW => time_yes 0 (by decide) (by decide) W hW) (fun W => by rw [← nv_200]; exact int_any 200 (by decide) (by decide) W) w hT
  have := oid_any (.slice (some ⟨W.heap.size, 0, none⟩) 4 4) [1, 2, 840, 10045] W' (.inr ⟨⟨W.heap.size, 0, none⟩, 4, rfl, by decide, fun i x hx => by
    rw [hW, Addr.add_mid, Nat.zero_add]
    match i, hx with
    | 0, hx => simp at hx; subst hx; simp [go_sem]
    | 1, hx => simp at hx; subst hx; simp [go_sem]
    | 2, hx => simp at hx; subst hx; simp [go_sem]
    | 3, hx => simp at hx; subst hx; simp [go_sem]
    | n + 4, hx => simp at hx⟩) (by decide) (by decide) (fun a n c h => by cases h; decide)
  unfold oidR at this
  rw [if_pos (by decide +kernel)] at this
  exact this
end Go.Proofs.YtajdfjpcobaioaaGreatDoor
