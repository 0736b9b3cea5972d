/- Keys and blocks refused; Encrypt. -/
import Derived.Test.YtjaljnfijhfkcaaGreatDoorJ22
set_option linter.all false
set_option maxRecDepth 100000
namespace Go.Proofs.YtjaljnfijhfkcaaGreatDoor
open Go.RowKit Go.Sort
def isK (key : ByteArray) : Bool := decide (key.size = 16) || decide (key.size = 32)
theorem isK_iff (key : ByteArray) : isK key = true ↔ Key key := by unfold isK Key; simp
set_option maxHeartbeats 1000000 in
theorem isKey_any (key : ByteArray) (w : World) : Calls Tryz.prog 106 #[.string key] w fun e w' => e = .returned (.bool (isK key)) ∧ w' = w := by
  by_cases h1 : key.size = 16
  · have e : isK key = true := by unfold isK; simp [h1]
    have i1 : (key.size : Int) = 16 := by omega
    rw [e]
    clear e h1
    go_enter Tryz.func106, Tryz.ntmps106
    go_wp2
    go_ret
    exact ⟨rfl, rfl⟩
  · have i1 : ¬ (key.size : Int) = 16 := by omega
    by_cases h2 : key.size = 32
    · have e : isK key = true := by unfold isK; simp [h2]
      have i2 : (key.size : Int) = 32 := by omega
      rw [e]
      clear e h1 h2
      go_enter Tryz.func106, Tryz.ntmps106
      go_wp2
      go_ret
      exact ⟨rfl, rfl⟩
    · have e : isK key = false := by unfold isK; simp [h1, h2]
      have i2 : ¬ (key.size : Int) = 32 := by omega
      rw [e]
      clear e h1 h2
      go_enter Tryz.func106, Tryz.ntmps106
      go_wp2
      go_ret
      refine ⟨?_, rfl⟩
      simp [i1, i2]
/-- What is wrong with a key and a block. -/
def rfs (key block : ByteArray) : Int := if isK key = true then (if block.size = 16 then 0 else 10) else 13
set_option maxHeartbeats 1000000 in
theorem refused_any (key block : ByteArray) (w : World) : Calls Tryz.prog 95 #[.string key, .string block] w fun e w' => e = .returned (.int .i64 (rfs key block)) ∧ w' = w := by
  have C := fun W => isKey_any key W
  have hnot : ∀ (x : Bool) (w : World), (Op.unary .not (.bool x)).run Tryz.prog w = .ok (.bool (!x)) w := fun _ _ => rfl
  unfold rfs
  by_cases h1 : isK key = true
  · rw [h1] at C
    rw [if_pos h1]
    clear h1
    by_cases h2 : block.size = 16
    · have i2 : (block.size : Int) = 16 := by omega
      rw [if_pos h2]
      clear h2
      go_enter Tryz.func95, Tryz.ntmps95
      go_wp2_with (go_at_call 106; refine (C _).mono ?_; rintro e w1 ⟨rfl, rfl⟩)
      go_ret
      exact ⟨rfl, rfl⟩
    · have i2 : ¬ (block.size : Int) = 16 := by omega
      rw [if_neg h2]
      clear h2
      go_enter Tryz.func95, Tryz.ntmps95
      go_wp2_with (go_at_call 106; refine (C _).mono ?_; rintro e w1 ⟨rfl, rfl⟩)
      go_ret
      exact ⟨rfl, rfl⟩
  · have h2 : isK key = false := by simpa using h1
    rw [h2] at C
    rw [if_neg h1]
    clear h1 h2
    go_enter Tryz.func95, Tryz.ntmps95
    go_wp2_with (go_at_call 106; refine (C _).mono ?_; rintro e w1 ⟨rfl, rfl⟩)
    go_ret
    exact ⟨rfl, rfl⟩
/-- A new cipher's cells. -/
def frL (key : ByteArray) : List Value := .string key :: ([.int .u32 0, .int .i32 0, .int .u32 0] ++ List.replicate 256 (.int .u8 0) ++ List.replicate 60 (.int .u32 0) ++ [.int .i64 0])
theorem frL_is (key : ByteArray) : Tryz.zeroCells166.setIfInBounds 0 (Value.string key) = (frL key).toArray := by kernel_rfl
theorem zero63 : Tryz.zeroCells166 = (frL ⟨#[]⟩).toArray := by kernel_rfl
theorem Tryz.info166 : (Tryz.prog.info? 166).map (·.size) = some 321 := by kernel_rfl
theorem frL_len (key : ByteArray) : (frL key).length = 321 := by simp [frL]
theorem frL_at (key : ByteArray) (j : Nat) (hj : j < 321) : (frL key)[j]? = some (cph key 0 0 zT (fun _ => 0) 0 j) := by
  have z0 : ∀ k : Fin 321, (frL ⟨#[]⟩)[k.val]?.map (fun v => match v with | .int _ n => decide (n = 0) | _ => true) = some true := by decide +kernel
  unfold frL cph zT
  by_cases c0 : j = 0
  · subst c0; rfl
  · rw [if_neg c0]
    obtain ⟨i, rfl⟩ : ∃ i, j = i + 1 := ⟨j - 1, by omega⟩
    rw [List.getElem?_cons_succ]
    by_cases c1 : i < 3
    · have : i = 0 ∨ i = 1 ∨ i = 2 := by omega
      rcases this with rfl | rfl | rfl <;> rfl
    · rw [if_neg (by omega), if_neg (by omega), if_neg (by omega)]
      by_cases c2 : i < 259
      · rw [if_pos (by omega), List.getElem?_append_left (by simp; omega), List.getElem?_append_left (by simp; omega), List.getElem?_append_right (by simp; omega), List.getElem?_replicate, if_pos (by simp; omega)]
      · rw [if_neg (by omega)]
        by_cases c3 : i < 319
        · rw [if_pos (by omega), List.getElem?_append_left (by simp; omega), List.getElem?_append_right (by simp; omega), List.getElem?_replicate, if_pos (by simp; omega)]
        · rw [if_neg (by omega), List.getElem?_append_right (by simp; omega)]
          have : i = 319 := by omega
          subst this
          rfl
theorem frL_one (key : ByteArray) : ∀ v ∈ frL key, v.oneCell' = true := by
  intro v hv
  simp only [frL, List.mem_cons, List.mem_append, List.mem_replicate, List.not_mem_nil, or_false] at hv
  rcases hv with rfl | (((rfl | rfl | rfl) | ⟨_, rfl⟩) | ⟨_, rfl⟩) | rfl <;> rfl
theorem fresh_zero (w : World) : Arr (w.alloc (.cells Tryz.zeroCells166 166)) w.heap.size 321 (cph ⟨#[]⟩ 0 0 zT (fun _ => 0) 0) :=
  Arr.new _ _ 166 _ rfl _ 321 (fun j hj => by rw [zero63, List.getElem?_toArray]; exact frL_at _ j hj)
theorem fresh_new (w : World) (key : ByteArray) : Fresh ((w.alloc (.cells Tryz.zeroCells166 166)).setCells w.heap.size 0 (frL key)) w.heap.size key :=
  Arr.sets (fresh_zero w) (frL key) (frL_len key) _ (frL_at key)
theorem fresh_below (w : World) (key : ByteArray) : Below w.heap.size w ((w.alloc (.cells Tryz.zeroCells166 166)).setCells w.heap.size 0 (frL key)) :=
  below_setCells ((Below.refl _ w).alloc (Nat.le_refl _) _) (Nat.le_refl _) _ _
theorem fresh_size (w : World) (key : ByteArray) : ((w.alloc (.cells Tryz.zeroCells166 166)).setCells w.heap.size 0 (frL key)).heap.size = w.heap.size + 1 := by rw [size_sets]; simp
/-- What Encrypt answers. -/
def encS (key block : ByteArray) : ByteArray := tx (encF key (bF block))
theorem rfs_0 {key block : ByteArray} (h : rfs key block = 0) : Key key ∧ block.size = 16 := by
  unfold rfs at h
  by_cases h1 : isK key = true
  · rw [if_pos h1] at h
    by_cases h2 : block.size = 16
    · exact ⟨(isK_iff key).1 h1, h2⟩
    · rw [if_neg h2] at h; omega
  · rw [if_neg h1] at h; omega
set_option maxHeartbeats 2000000 in
theorem encrypt_no (key block : ByteArray) (h : rfs key block ≠ 0) (w : World) :
    Calls Tryz.prog 76 #[.string key, .string block] w fun e w' => e = .returned (.tuple #[.string ⟨#[]⟩, .int .i64 (rfs key block)]) ∧ w' = w := by
  have C := fun W => refused_any key block W
  generalize rfs key block = r at *
  go_enter Tryz.func76, Tryz.ntmps76
  go_wp2_with (go_at_call 95; refine (C _).mono ?_; rintro e w1 ⟨rfl, rfl⟩)
  refine bodyPost_ret (v := .tuple #[.string ⟨#[]⟩, .int .i64 r]) (by simp [results, Tryz.results76, go_sem]) rfl ?_
  exact ⟨rfl, rfl⟩
set_option maxHeartbeats 4000000 in
theorem encrypt_core (key block : ByteArray) (x y : Nat → Int) (T : ByteArray) (L : List Value) (w : World) (HL : Hid (L = frL key))
    (C28 : ∀ W, Calls Tryz.prog 95 #[.string key, .string block] W fun e w' => e = .returned (.int .i64 0) ∧ w' = W)
    (C30 : ∀ W, Calls Tryz.prog 97 #[.string block] W fun e w' => e = .returned (bv x) ∧ Below W.heap.size W w')
    (C29 : ∀ b W, Fresh W b key → Calls Tryz.prog 96 #[.pointer (some ⟨b, 0, none⟩), bv x] W fun e w' => e = .returned (bv y) ∧ W.grownBy w' (some b) ∧ Made w' b key)
    (C25 : ∀ W, Calls Tryz.prog 98 #[bv y] W fun e w' => e = .returned (.string T) ∧ Below W.heap.size W w') :
    Calls Tryz.prog 76 #[.string key, .string block] w fun e w' => e = .returned (.tuple #[.string T, .int .i64 0]) ∧ Below w.heap.size w w' := by
  go_enter Tryz.func76, Tryz.ntmps76
  go_wp2_with fail
  refine (C28 _).mono ?_
  rintro e w1 ⟨rfl, rfl⟩
  clear C28
  go_upto_region 4 with (fail)
  refine wp_region_list ?_
  refine wpList_plain (by rfl) fun K1 hK1 => ?_
  have H1 : Hid _ := hK1
  clear hK1
  go_wp2_with fail
  refine H1.out _ _ ?_
  clear H1
  refine wpList_plain (by rfl) fun K1 hK1 => ?_
  have H1 : Hid _ := hK1
  clear hK1
  go_wp2_with fail
  refine H1.out _ _ ?_
  clear H1
  rw [frL_is, ← HL.out]
  have HS : L.toArray.size = 321 := by rw [HL.out, List.size_toArray, frL_len]
  refine wpList_plain (by rfl) fun K1 hK1 => ?_
  have H1 : Hid _ := hK1
  clear hK1
  go_wp2_with fail
  refine H1.out _ _ ?_
  clear H1
  refine wpList_store_mid (by rfl) 166 (.tmp 7) (.tmp 15) (by rfl) _ _ L.toArray (by rfl) (by rfl) (by rw [HS]; exact (fresh_zero _).there) (by rw [HS]; exact Tryz.info166) (by rw [HL.out]; exact all_oneCell_toArray (frL_one key)) ?_
  refine wpList_nil ?_
  have F := fresh_new w1 key
  have B := fresh_below w1 key
  have eL : L.toArray.toList = L := rfl
  rw [eL]
  rw [← HL.out] at F B
  clear eL HS
  generalize (w1.alloc (.cells Tryz.zeroCells166 166)).setCells w1.heap.size 0 L = w3 at F B ⊢
  go_wp2_with fail
  refine (C30 _).mono ?_
  rintro e w4 ⟨rfl, hb4⟩
  have F4 := Cph.to F hb4
  have B4 := Bel.call B hb4
  clear F B hb4 C30
  go_wp2_with fail
  refine (C29 _ _ F4).mono ?_
  rintro e w5 ⟨rfl, hG, _⟩
  have B5 := gb_below B4 hG (Nat.le_refl _)
  clear F4 B4 hG C29
  go_wp2_with fail
  refine (C25 _).mono ?_
  rintro e w6 ⟨rfl, hb6⟩
  have B6 := Bel.call B5 hb6
  clear B5 hb6 C25
  go_wp2_with fail
  refine bodyPost_ret (v := .tuple #[.string T, .int .i64 0]) (by simp [results, Tryz.results76, go_sem]) rfl ?_
  exact ⟨rfl, B6⟩
theorem encrypt_any (key block : ByteArray) (w : World) :
    Calls Tryz.prog 76 #[.string key, .string block] w fun e w' => e = .returned (.tuple #[.string (if rfs key block = 0 then encS key block else ⟨#[]⟩), .int .i64 (rfs key block)]) ∧ Below w.heap.size w w' := by
  by_cases h : rfs key block = 0
  · obtain ⟨hk, hs⟩ := rfs_0 h
    have C28 := fun W => refused_any key block W
    rw [if_pos h, h] at *
    exact encrypt_core key block (col (bF block)) (col (encF key (bF block))) (encS key block) (frL key) w rfl C28 (fun W => blockOf_any block hs W) (fun b W hF => encrypted_any key hk b _ W (.inl hF)) (fun W => text_b _ W)
  · rw [if_neg h]
    exact (encrypt_no key block h w).mono fun e w' ⟨h1, h2⟩ => ⟨h1, by rw [h2]; exact Below.refl _ _⟩
end Go.Proofs.YtjaljnfijhfkcaaGreatDoor
