/- Texts joined: D3, D4, D5, D6, E3. -/
import Derived.Laws.Concat
import Derived.Test.YtjdpeedghpblgaaGreatDoorD1
import Derived.Test.YtjdpeedghpblgaaGreatDoorJ2
/- How many bytes there are, read. -/
set_option linter.all false
set_option maxRecDepth 100000
namespace Go.Proofs.YtjdpeedghpblgaaGreatDoor
open Go.RowKit Go.Sort
theorem idx0 (s : ByteArray) (hs : 0 < s.size) (W : World) : (Instr.index 9 (.string s) (.int .i64 0)).run Tryz.prog W = .ok (.int .u8 (bt s 0)) W := idxS s 0 hs W
theorem emp_no (s : ByteArray) (h : 0 < s.size) : (s.toList == []) = false := by
  have e := ByteArray.toList_eq s
  have l := len_list s
  rw [e]
  cases h2 : s.data.toList with
  | nil => rw [h2] at l; simp at l; omega
  | cons a b => rfl
theorem or_low8 (x d : Int) (x0 : 0 ≤ x) (x1 : x < 256) (hd : 0 ≤ d ∧ d < 256) : bits .or .i64 (x * 256) d = x * 256 + d := by
  obtain ⟨a, rfl⟩ := Int.eq_ofNat_of_zero_le x0
  obtain ⟨b, rfl⟩ := Int.eq_ofNat_of_zero_le hd.1
  have ha : a < 256 := by omega
  have hb : b < 256 := by omega
  have h1 : (BitVec.ofInt 64 ((a * 256 : Nat) : Int)).toNat = a * 256 := by rw [BitVec.ofInt_natCast, BitVec.toNat_ofNat]; exact Nat.mod_eq_of_lt (by omega)
  have h2 : (BitVec.ofInt 64 (b : Int)).toNat = b := by rw [BitVec.ofInt_natCast, BitVec.toNat_ofNat]; exact Nat.mod_eq_of_lt (by omega)
  have e : a * 256 ||| b = a * 256 + b := by
    have := Nat.shiftLeft_add_eq_or_of_lt (i := 8) (b := b) (by omega) a
    rw [Nat.shiftLeft_eq] at this
    exact this.symm
  show IntKind.i64.wrap ((BitVec.ofInt 64 ((a : Int) * 256) ||| BitVec.ofInt 64 (b : Int)).toNat : Int) = _
  rw [show (a : Int) * 256 = ((a * 256 : Nat) : Int) by omega, BitVec.toNat_or, h1, h2, e, IntKind.wrap_i64]
  omega
/-- The number of k bytes behind the first. -/
def lv (s : ByteArray) : Nat → Int
  | 0 => 0
  | k + 1 => lv s k * 256 + bt s (k + 1)
theorem lv_bd (s : ByteArray) (k : Nat) (h : k ≤ 2) : 0 ≤ lv s k ∧ lv s k < 65536 := by
  have a := bt_bd s 1
  have b := bt_bd s 2
  match k, h with
  | 0, _ => simp [lv]
  | 1, _ => simp [lv]; omega
  | 2, _ => simp [lv]; omega
theorem lv_or (s : ByteArray) (k : Nat) (h : k < 2) : bits .or .i64 (lv s k * 256) (bt s (k + 1)) = lv s (k + 1) := by
  have a := bt_bd s 1
  have b := bt_bd s 2
  match k, h with
  | 0, _ => exact or_low8 0 (bt s 1) (by omega) (by omega) a
  | 1, _ => exact or_low8 (lv s 1) (bt s 2) (by simp [lv]; omega) (by simp [lv]; omega) b
theorem lv_bit (s : ByteArray) (k : Nat) (h : k < 2) : 0 ≤ lv s k ∧ lv s k < 256 := by
  have a := bt_bd s 1
  match k, h with
  | 0, _ => simp [lv]
  | 1, _ => simp [lv]; omega
end Go.Proofs.YtjdpeedghpblgaaGreatDoor
/- Read. -/
set_option linter.all false
set_option maxRecDepth 100000
namespace Go.Proofs.YtjdpeedghpblgaaGreatDoor
open Go.RowKit Go.Sort
abbrev tlv (t : Int) (b : ByteArray) : Value := .agg #[.int .i64 t, .string b]
theorem cut1 (s : ByteArray) (hs : 0 < s.size) (hm : s.size ≤ maxLen) (W : World) : (Instr.slice 9 (.string s) (some (.int .i64 1)) none none).run Tryz.prog W = .ok (.string (s.extract 1 s.size)) W := by
  unfold maxLen at hm
  have z0 : (1 : Int) ≤ (s.size : Int) := by omega
  go_simp
theorem two_cells {w w1 : World} {a b : Value} {T : TypeId} (h : Below (w.alloc (.cells #[a, b] T)).heap.size (w.alloc (.cells #[a, b] T)) w1) : w1.cell? ⟨w.heap.size, 0, none⟩ = some a ∧ w1.cell? ⟨w.heap.size, 1, none⟩ = some b ∧ w1.frozen? ⟨w.heap.size, 0, none⟩ = false ∧ w1.frozen? ⟨w.heap.size, 1, none⟩ = false := by
  have A : Arr (w.alloc (.cells #[a, b] T)) w.heap.size 2 (fun j => if j = 0 then a else b) := Arr.new w #[a, b] T _ rfl _ 2 (fun j hj => by
    match j, hj with
    | 0, _ => rfl
    | 1, _ => rfl)
  have A1 := A.below h (by simp)
  exact ⟨A1.c 0 (by omega), A1.c 1 (by omega), A1.z 0 (by omega), A1.z 1 (by omega)⟩
end Go.Proofs.YtjdpeedghpblgaaGreatDoor
/- What Read tells, in one word. -/
set_option linter.all false
set_option maxRecDepth 100000
namespace Go.Proofs.YtjdpeedghpblgaaGreatDoor
open Go.RowKit Go.Sort
theorem ext_to (s : ByteArray) (a b c : Nat) (hb : a + b ≤ a + c) (hc : a + c ≤ s.size) : (s.extract a s.size).extract b c = s.extract (a + b) (a + c) := by
  apply ba_ext
  rw [ext_list, ext_list, ext_list, List.drop_take, List.take_take, List.drop_drop]
  congr 1
  omega
theorem ext_sz (s : ByteArray) (a b : Nat) (h : b ≤ s.size) : (s.extract a b).size = b - a := by
  rw [ByteArray.size_extract]; omega
/-- How many bytes stand ahead. -/
def rdH (s : ByteArray) : Nat := if bt s 1 < 128 then 2 else if bt s 1 = 129 then 3 else 4
/-- How many there are. -/
def rdN (s : ByteArray) : Nat := (if bt s 1 < 128 then bt s 1 else if bt s 1 = 129 then bt s 2 else bt s 2 * 256 + bt s 3).toNat
/-- Read's error. -/
def rdE (s : ByteArray) : Int := if s.size < 2 then 11 else if bt s 1 = 128 ∨ 130 < bt s 1 then 10 else if s.size < rdH s then 11 else if (lenL (rdN s)).length < rdH s - 1 then 10 else if s.size < rdH s + rdN s then 11 else 0
def rdR (s : ByteArray) : Value := if rdE s = 0 then .tuple #[tlv (bt s 0) (s.extract (rdH s) (rdH s + rdN s)), .string (s.extract (rdH s + rdN s) s.size), .int .i64 0] else .tuple #[tlv 0 ⟨#[]⟩, .string ⟨#[]⟩, .int .i64 (rdE s)]
theorem lv_1 (s : ByteArray) : lv s 1 = bt s 1 := by simp [lv]
theorem lv_2 (s : ByteArray) : lv s 2 = bt s 1 * 256 + bt s 2 := by simp [lv]
/- There and back. -/
theorem lenL_bd (n : Nat) (h : n < 65536) : ∀ x ∈ lenL n, 0 ≤ x ∧ x < 256 := by
  intro x hx
  unfold lenL at hx
  split at hx
  · simp at hx; omega
  · split at hx <;> simp at hx <;> omega
end Go.Proofs.YtjdpeedghpblgaaGreatDoor
/- Numbers as they stand within a tag. -/
set_option linter.all false
set_option maxRecDepth 100000
namespace Go.Proofs.YtjdpeedghpblgaaGreatDoor
open Go.RowKit Go.Sort
def z1 : ByteArray := ⟨#[0]⟩
theorem z1_is : z1 = mkS [0] := by apply ba_ext; rfl
/-- A text of bytes 0 and others, as a number stands. -/
def intF (T : ByteArray) : ByteArray := if T.size = 0 ∨ 128 ≤ bt T 0 then z1 ++ T else T
theorem add_s (a b : ByteArray) (h : a.size + b.size ≤ 9000000000000000000) (W : World) : (Op.stringOp .add a b).run Tryz.prog W = .ok (.string (a ++ b)) W :=
  run_string_add_sum W a b (by omega)
theorem int_core (N : Int) (S T : ByteArray) (hT : T.size ≤ 32)
    (C37 : ∀ W, Calls Tryz.prog 119 #[nv N] W fun e w' => e = .returned (.string S) ∧ Below W.heap.size W w')
    (C36 : ∀ W, Calls Tryz.prog 118 #[.string S, .string ⟨#[0]⟩] W fun e w' => e = .returned (.string T) ∧ w' = W) (w : World) :
    Calls Tryz.prog 105 #[nv N] w fun e w' => e = .returned (.string (intF T)) ∧ Below w.heap.size w w' := by
  unfold intF z1
  have AD := add_s ⟨#[0]⟩ T (by have : (⟨#[0]⟩ : ByteArray).size = 1 := rfl; omega)
  by_cases c0 : T.size = 0
  · have e : T = ⟨#[]⟩ := by
      apply ba_ext
      have := len_list T
      rw [c0] at this
      rw [List.eq_nil_of_length_eq_zero this]
    rw [if_pos (.inl c0)]
    subst e
    go_enter Tryz.func105, Tryz.ntmps105
    go_wp2_with (first | (go_at_call 119; refine (C37 _).mono ?_; rintro e w1 ⟨rfl, hb1⟩) | (go_at_call 118; refine (C36 _).mono ?_; rintro e w2 ⟨rfl, rfl⟩))
    go_ret
    exact ⟨rfl, Bel.call (by go_grown) hb1⟩
  · have em := emp_no T (by omega)
    have I := idx0 T (by omega)
    have b0 := bt_bd T 0
    by_cases c1 : 128 ≤ bt T 0
    · rw [if_pos (.inr c1)]
      generalize bt T 0 = c at *
      go_enter Tryz.func105, Tryz.ntmps105
      go_wp2_with (first | (go_at_call 119; refine (C37 _).mono ?_; rintro e w1 ⟨rfl, hb1⟩) | (go_at_call 118; refine (C36 _).mono ?_; rintro e w2 ⟨rfl, rfl⟩))
      go_ret
      exact ⟨rfl, Bel.call (by go_grown) hb1⟩
    · rw [if_neg (by omega)]
      generalize bt T 0 = c at *
      go_enter Tryz.func105, Tryz.ntmps105
      go_wp2_with (first | (go_at_call 119; refine (C37 _).mono ?_; rintro e w1 ⟨rfl, hb1⟩) | (go_at_call 118; refine (C36 _).mono ?_; rintro e w2 ⟨rfl, rfl⟩))
      go_ret
      exact ⟨rfl, Bel.call (by go_grown) hb1⟩
end Go.Proofs.YtjdpeedghpblgaaGreatDoor
/- der.Read, walked. -/
set_option linter.all false
set_option maxRecDepth 100000
namespace Go.Proofs.YtjdpeedghpblgaaGreatDoor
open Go.RowKit Go.Sort
theorem rl_0 (w : World) : Calls Tryz.prog 139 #[.string ⟨#[]⟩] w fun e w' => e = .returned (.tuple #[.int .i64 0, .string ⟨#[]⟩, .int .i64 11]) ∧ Below w.heap.size w w' := by
  go_enter Tryz.func139, Tryz.ntmps139
  go_wp2_with fail
  exact bodyPost_ret (v := .tuple #[.int .i64 0, .string ⟨#[]⟩, .int .i64 11]) (by simp [results, Tryz.results139, go_sem]) rfl ⟨rfl, by go_grown⟩
theorem rl_lo (s : ByteArray) (hs : 0 < s.size) (hm : s.size ≤ maxLen) (h : bt s 0 < 128) (w : World) : Calls Tryz.prog 139 #[.string s] w fun e w' => e = .returned (.tuple #[.int .i64 (bt s 0), .string (s.extract 1 s.size), .int .i64 0]) ∧ Below w.heap.size w w' := by
  have I := idx0 s hs
  have b0 := (bt_bd s 0).1
  have em := emp_no s hs
  unfold maxLen at hm
  have z0 : (1 : Int) ≤ (s.size : Int) := by omega
  generalize bt s 0 = c at *
  go_enter Tryz.func139, Tryz.ntmps139
  go_wp2_with fail
  go_region
  go_wp2_with fail
  exact bodyPost_ret (v := .tuple #[.int .i64 c, .string (s.extract 1 s.size), .int .i64 0]) (by simp [results, Tryz.results139, go_sem]) rfl ⟨rfl, by go_grown⟩
theorem rl_bad (s : ByteArray) (hs : 0 < s.size) (hm : s.size ≤ maxLen) (h : bt s 0 = 128 ∨ 130 < bt s 0) (w : World) : Calls Tryz.prog 139 #[.string s] w fun e w' => e = .returned (.tuple #[.int .i64 0, .string ⟨#[]⟩, .int .i64 10]) ∧ Below w.heap.size w w' := by
  have I := idx0 s hs
  have b0 := (bt_bd s 0).1
  have b1 := (bt_bd s 0).2
  have em := emp_no s hs
  generalize bt s 0 = c at *
  rcases h with h | h
  · subst h
    go_enter Tryz.func139, Tryz.ntmps139
    go_wp2_with fail
    exact bodyPost_ret (v := .tuple #[.int .i64 0, .string ⟨#[]⟩, .int .i64 10]) (by simp [results, Tryz.results139, go_sem]) rfl ⟨rfl, by go_grown⟩
  · go_enter Tryz.func139, Tryz.ntmps139
    go_wp2_with fail
    exact bodyPost_ret (v := .tuple #[.int .i64 0, .string ⟨#[]⟩, .int .i64 10]) (by simp [results, Tryz.results139, go_sem]) rfl ⟨rfl, by go_grown⟩
theorem rl_sh (s : ByteArray) (hs : 0 < s.size) (hm : s.size ≤ maxLen) (m : Nat) (h1 : 1 ≤ m) (h2 : m ≤ 2) (h : bt s 0 = 128 + m) (hz : s.size ≤ m) (w : World) : Calls Tryz.prog 139 #[.string s] w fun e w' => e = .returned (.tuple #[.int .i64 0, .string ⟨#[]⟩, .int .i64 11]) ∧ Below w.heap.size w w' := by
  have I := idx0 s hs
  have em := emp_no s hs
  rw [h] at I
  clear h
  have z0 : (s.size : Int) ≤ (m : Int) := by omega
  have z1 : (1 : Int) ≤ (m : Int) := by omega
  have z2 : (m : Int) ≤ 2 := by omega
  go_enter Tryz.func139, Tryz.ntmps139
  go_wp2_with fail
  exact bodyPost_ret (v := .tuple #[.int .i64 0, .string ⟨#[]⟩, .int .i64 11]) (by simp [results, Tryz.results139, go_sem]) rfl ⟨rfl, by go_grown⟩
theorem rl_loop (s G : ByteArray) (hs : 0 < s.size) (hm : s.size ≤ maxLen) (m : Nat) (h1 : 1 ≤ m) (h2 : m ≤ 2) (h : bt s 0 = 128 + m) (hz : m < s.size)
    (CL : ∀ W, Calls Tryz.prog 106 #[.int .i64 (lv s m)] W fun e w' => e = .returned (.string G) ∧ Below W.heap.size W w') (E : Int) (R : ByteArray) (V : Int) (hg : G.size ≤ 10) (hE : Hid ((G.size ≤ m ∧ E = 10 ∧ R = ⟨#[]⟩ ∧ V = 0) ∨ (m < G.size ∧ E = 0 ∧ R = s.extract (1 + m) s.size ∧ V = lv s m))) (w : World) : Calls Tryz.prog 139 #[.string s] w fun e w' => e = .returned (.tuple #[.int .i64 V, .string R, .int .i64 E]) ∧ Below w.heap.size w w' := by
  have I := idx0 s hs
  have em := emp_no s hs
  rw [h] at I
  clear h
  unfold maxLen at hm
  have z0 : (m : Int) < (s.size : Int) := by omega
  have z1 : (1 : Int) ≤ (m : Int) := by omega
  have z2 : (m : Int) ≤ 2 := by omega
  have LB := lv_bd s m h2
  go_enter Tryz.func139, Tryz.ntmps139
  go_wp2_with fail
  go_loop [7, 34] (fun n i => ∃ k : Nat, k ≤ m ∧ n = .int .i64 (lv s k) ∧ i = .int .i64 (k : Int)) (fun _ i => m - (intOf i).toNat)
  case atStart => exact ⟨0, by omega, rfl, rfl⟩
  case round =>
    obtain ⟨k, hk, rfl, rfl⟩ := hrel
    by_cases hlt : k < m
    · have k0 : (0 : Int) ≤ (k : Int) := by omega
      have k1 : (k : Int) < (m : Int) := by omega
      have I2 := fun W => idxS s (k + 1) (by omega) W
      have ov := lv_or s k (by omega)
      have lb := lv_bit s k (by omega)
      have cb := bt_bd s (k + 1)
      rw [show ((k + 1 : Nat) : Int) = 1 + (k : Int) by omega] at I2
      have HN : Hid _ := ov
      generalize lv s k = x at *
      generalize bt s (k + 1) = y at *
      go_wp2_with fail
      exact ⟨⟨k + 1, by omega, by first | rfl | rw [HN.out], by go_num⟩, by simp [intOf]; omega⟩
    · obtain rfl : k = m := by omega
      rcases hE.out with ⟨g, rfl, rfl, rfl⟩ | ⟨g, rfl, rfl, rfl⟩
      · have g' : (G.size : Int) ≤ (k : Int) := by omega
        go_wp2_with (go_at_call 106; refine (CL _).mono ?_; rintro e w2 ⟨rfl, hb2⟩)
        exact bodyPost_ret (v := .tuple #[.int .i64 0, .string ⟨#[]⟩, .int .i64 10]) (by simp [results, Tryz.results139, go_sem]) rfl ⟨rfl, hb2⟩
      · have g' : (k : Int) < (G.size : Int) := by omega
        clear hE
        go_wp2_with (go_at_call 106; refine (CL _).mono ?_; rintro e w2 ⟨rfl, hb2⟩)
        go_region
        go_wp2_with fail
        exact bodyPost_ret (v := .tuple #[.int .i64 (lv s k), .string (s.extract (1 + k) s.size), .int .i64 0]) (by simp [results, Tryz.results139, go_sem]) rfl ⟨rfl, by first | exact hb2 | exact Bel.drew hb2⟩
theorem rd_0 (w : World) : Calls Tryz.prog 133 #[.string ⟨#[]⟩] w fun e w' => e = .returned (.tuple #[tlv 0 ⟨#[]⟩, .string ⟨#[]⟩, .int .i64 11]) ∧ Below w.heap.size w w' := by
  go_enter Tryz.func133, Tryz.ntmps133
  go_wp2_with fail
  exact bodyPost_ret (v := .tuple #[tlv 0 ⟨#[]⟩, .string ⟨#[]⟩, .int .i64 11]) (by simp [results, Tryz.results133, go_sem]) rfl ⟨rfl, by go_grown⟩
theorem rd_e (s : ByteArray) (hs : 0 < s.size) (hm : s.size ≤ maxLen) (E : Int) (h0 : ¬ E = 0) (CR : ∀ W, Calls Tryz.prog 139 #[.string (s.extract 1 s.size)] W fun e w' => e = .returned (.tuple #[.int .i64 0, .string ⟨#[]⟩, .int .i64 E]) ∧ Below W.heap.size W w') (w : World) :
    Calls Tryz.prog 133 #[.string s] w fun e w' => e = .returned (.tuple #[tlv 0 ⟨#[]⟩, .string ⟨#[]⟩, .int .i64 E]) ∧ Below w.heap.size w w' := by
  have em := emp_no s hs
  have ct := cut1 s hs hm
  generalize s.extract 1 s.size = S1 at *
  go_enter Tryz.func133, Tryz.ntmps133
  go_wp2_with (go_at_call 139; refine (CR _).mono ?_; rintro e w1 ⟨rfl, hb1⟩; obtain ⟨c0, c1, z0, z1⟩ := two_cells hb1)
  exact bodyPost_ret (v := .tuple #[tlv 0 ⟨#[]⟩, .string ⟨#[]⟩, .int .i64 E]) (by simp [results, Tryz.results133, go_sem, *]) rfl ⟨rfl, Bel.st (Bel.st (Bel.call (by go_grown) hb1) (Nat.le_refl _) _) (Nat.le_refl _) _⟩
theorem rd_s (s S2 : ByteArray) (n : Int) (n0 : 0 ≤ n) (hs : 0 < s.size) (hm : s.size ≤ maxLen) (hn : (S2.size : Int) < n) (CR : ∀ W, Calls Tryz.prog 139 #[.string (s.extract 1 s.size)] W fun e w' => e = .returned (.tuple #[.int .i64 n, .string S2, .int .i64 0]) ∧ Below W.heap.size W w') (w : World) :
    Calls Tryz.prog 133 #[.string s] w fun e w' => e = .returned (.tuple #[tlv 0 ⟨#[]⟩, .string ⟨#[]⟩, .int .i64 11]) ∧ Below w.heap.size w w' := by
  have em := emp_no s hs
  have ct := cut1 s hs hm
  generalize s.extract 1 s.size = S1 at *
  go_enter Tryz.func133, Tryz.ntmps133
  go_wp2_with (go_at_call 139; refine (CR _).mono ?_; rintro e w1 ⟨rfl, hb1⟩; obtain ⟨c0, c1, z0, z1⟩ := two_cells hb1)
  exact bodyPost_ret (v := .tuple #[tlv 0 ⟨#[]⟩, .string ⟨#[]⟩, .int .i64 11]) (by simp [results, Tryz.results133, go_sem, *]) rfl ⟨rfl, Bel.st (Bel.st (Bel.call (by go_grown) hb1) (Nat.le_refl _) _) (Nat.le_refl _) _⟩
theorem rd_y (s S2 : ByteArray) (n : Nat) (hs : 0 < s.size) (hm : s.size ≤ maxLen) (hn : n ≤ S2.size) (h2 : S2.size ≤ s.size) (CR : ∀ W, Calls Tryz.prog 139 #[.string (s.extract 1 s.size)] W fun e w' => e = .returned (.tuple #[.int .i64 (n : Int), .string S2, .int .i64 0]) ∧ Below W.heap.size W w') (w : World) :
    Calls Tryz.prog 133 #[.string s] w fun e w' => e = .returned (.tuple #[tlv (bt s 0) (S2.extract 0 n), .string (S2.extract n S2.size), .int .i64 0]) ∧ Below w.heap.size w w' := by
  have em := emp_no s hs
  have ct := cut1 s hs hm
  have I := idx0 s hs
  have b0 := bt_bd s 0
  unfold maxLen at hm
  have n0 : (0 : Int) ≤ (n : Int) := by omega
  have n1 : (n : Int) ≤ (S2.size : Int) := by omega
  have n2 : (S2.size : Int) ≤ 9223372036854775807 := by omega
  generalize s.extract 1 s.size = S1 at *
  generalize bt s 0 = c at *
  go_enter Tryz.func133, Tryz.ntmps133
  go_wp2_with (go_at_call 139; refine (CR _).mono ?_; rintro e w1 ⟨rfl, hb1⟩; obtain ⟨c0, c1, z0, z1⟩ := two_cells hb1)
  go_region
  go_wp2_with fail
  exact bodyPost_ret (v := .tuple #[tlv c (S2.extract 0 n), .string (S2.extract n S2.size), .int .i64 0]) (by simp [results, Tryz.results133, go_sem, *]) rfl ⟨rfl, Bel.st (Bel.st (Bel.drew (Bel.call (by go_grown) hb1)) (Nat.le_refl _) _) (Nat.le_refl _) _⟩
theorem rd_case (s : ByteArray) (hs : 0 < s.size) (hm : s.size ≤ maxLen) (H : Nat) (hH : 1 ≤ H) (hH2 : H ≤ s.size) (n : Nat)
    (CR : ∀ W, Calls Tryz.prog 139 #[.string (s.extract 1 s.size)] W fun e w' => e = .returned (.tuple #[.int .i64 (n : Int), .string (s.extract H s.size), .int .i64 0]) ∧ Below W.heap.size W w') (w : World) :
    Calls Tryz.prog 133 #[.string s] w fun e w' => e = .returned (if s.size < H + n then .tuple #[tlv 0 ⟨#[]⟩, .string ⟨#[]⟩, .int .i64 11] else .tuple #[tlv (bt s 0) (s.extract H (H + n)), .string (s.extract (H + n) s.size), .int .i64 0]) ∧ Below w.heap.size w w' := by
  have z := ext_sz s H s.size (Nat.le_refl _)
  by_cases c : s.size < H + n
  · rw [if_pos c]
    exact rd_s s _ n (by omega) hs hm (by rw [z]; omega) CR w
  · rw [if_neg c]
    have := rd_y s _ n hs hm (by rw [z]; omega) (by rw [z]; omega) CR w
    rw [ext_to s H 0 n (by omega) (by omega)] at this
    rw [z, ext_to s H n (s.size - H) (by omega) (by omega), Nat.add_zero, show H + (s.size - H) = s.size by omega] at this
    exact this
theorem read_any (s : ByteArray) (hm : s.size ≤ maxLen) (w : World) : Calls Tryz.prog 133 #[.string s] w fun e w' => e = .returned (rdR s) ∧ Below w.heap.size w w' := by
  unfold rdR
  by_cases c0 : s.size = 0
  · have e : s = ⟨#[]⟩ := by
      apply ba_ext
      have := len_list s
      rw [c0] at this
      rw [List.eq_nil_of_length_eq_zero this]
    have eE : rdE s = 11 := by unfold rdE; rw [if_pos (by omega)]
    rw [eE, if_neg (by decide), e]
    exact rd_0 w
  have hs : 0 < s.size := by omega
  have z1 := ext_sz s 1 s.size (Nat.le_refl _)
  have hm1 : (s.extract 1 s.size).size ≤ maxLen := by rw [z1]; omega
  by_cases c1 : s.size = 1
  · have eE : rdE s = 11 := by unfold rdE; rw [if_pos (by omega)]
    rw [eE, if_neg (by decide)]
    refine rd_e s hs hm 11 (by decide) (fun W => ?_) w
    have e : s.extract 1 s.size = ⟨#[]⟩ := by
      apply ba_ext
      have := len_list (s.extract 1 s.size)
      rw [z1, show s.size - 1 = 0 by omega] at this
      rw [List.eq_nil_of_length_eq_zero this]
    rw [e]; exact rl_0 W
  have hs1 : 0 < (s.extract 1 s.size).size := by rw [z1]; omega
  have b0 : bt (s.extract 1 s.size) 0 = bt s 1 := bt_ext s 1 s.size 0 (by omega) (Nat.le_refl _)
  have bb := bt_bd s 1
  by_cases c2 : bt s 1 = 128 ∨ 130 < bt s 1
  · have eE : rdE s = 10 := by unfold rdE; rw [if_neg (by omega), if_pos c2]
    rw [eE, if_neg (by decide)]
    exact rd_e s hs hm 10 (by decide) (fun W => rl_bad _ hs1 hm1 (by rw [b0]; exact c2) W) w
  by_cases c3 : bt s 1 < 128
  · have eH : rdH s = 2 := by unfold rdH; rw [if_pos c3]
    have eN : (rdN s : Int) = bt s 1 := by unfold rdN; rw [if_pos c3]; omega
    have eL : (lenL (rdN s)).length = 1 := by unfold lenL; rw [if_pos (by omega)]; rfl
    have eE : rdE s = if s.size < 2 + rdN s then 11 else 0 := by unfold rdE; rw [if_neg (by omega), if_neg c2, eH, eL, if_neg (by omega), if_neg (by decide)]
    have := rd_case s hs hm 2 (by omega) (by omega) (rdN s) (fun W => by
      have r := rl_lo _ hs1 hm1 (by rw [b0]; exact c3) W
      rw [b0, ← eN, z1, ext_to s 1 1 (s.size - 1) (by omega) (by omega), show 1 + (s.size - 1) = s.size by omega] at r
      exact r) w
    rw [eE, eH]
    by_cases c4 : s.size < 2 + rdN s
    · rw [if_pos c4] at this ⊢; rw [if_neg (by decide)]; exact this
    · rw [if_neg c4] at this ⊢; rw [if_pos rfl]; exact this
  obtain ⟨m, h1, h2, hbm⟩ : ∃ m : Nat, 1 ≤ m ∧ m ≤ 2 ∧ bt s 1 = 128 + m := ⟨(bt s 1 - 128).toNat, by omega, by omega, by omega⟩
  have eH : rdH s = 2 + m := by unfold rdH; rw [if_neg c3]; split <;> omega
  by_cases c5 : s.size < 2 + m
  · have eE : rdE s = 11 := by unfold rdE; rw [if_neg (by omega), if_neg c2, eH, if_pos c5]
    rw [eE, if_neg (by decide)]
    exact rd_e s hs hm 11 (by decide) (fun W => rl_sh _ hs1 hm1 m h1 h2 (by rw [b0]; exact hbm) (by rw [z1]; omega) W) w
  have eN : (rdN s : Int) = lv (s.extract 1 s.size) m := by
    have x2 := bt_bd s 2
    have x3 := bt_bd s 3
    unfold rdN
    rw [if_neg c3]
    rcases (show m = 1 ∨ m = 2 by omega) with rfl | rfl
    · rw [if_pos (by omega), lv_1, show bt (s.extract 1 s.size) 1 = bt s 2 from bt_ext s 1 s.size 1 (by omega) (Nat.le_refl _)]; omega
    · rw [if_neg (by omega), lv_2, show bt (s.extract 1 s.size) 1 = bt s 2 from bt_ext s 1 s.size 1 (by omega) (Nat.le_refl _), show bt (s.extract 1 s.size) 2 = bt s 3 from bt_ext s 1 s.size 2 (by omega) (Nat.le_refl _)]; omega
  have lb := lv_bd (s.extract 1 s.size) m h2
  obtain ⟨o, CL0⟩ := length_al (rdN s) (by omega) (by omega)
  have CL : ∀ W, Calls Tryz.prog 106 #[.int .i64 (lv (s.extract 1 s.size) m)] W fun e w' => e = .returned (.string (mkS (lenL (rdN s)))) ∧ Below W.heap.size W w' := fun W => by
    rw [← eN]
    refine (CL0 W).mono ?_
    rintro e w' ⟨rfl, rfl⟩
    exact ⟨rfl, by go_grown⟩
  have gz : (mkS (lenL (rdN s))).size = (lenL (rdN s)).length := mkS_size _
  have gl := lenL_le (rdN s)
  by_cases c6 : (lenL (rdN s)).length < 2 + m - 1
  · have eE : rdE s = 10 := by unfold rdE; rw [if_neg (by omega), if_neg c2, eH, if_neg c5, if_pos c6]
    rw [eE, if_neg (by decide)]
    exact rd_e s hs hm 10 (by decide) (fun W => rl_loop _ _ hs1 hm1 m h1 h2 (by rw [b0]; exact hbm) (by rw [z1]; omega) CL 10 ⟨#[]⟩ 0 (by omega) (.inl ⟨by omega, rfl, rfl, rfl⟩) W) w
  · have eE : rdE s = if s.size < 2 + m + rdN s then 11 else 0 := by unfold rdE; rw [if_neg (by omega), if_neg c2, eH, if_neg c5, if_neg c6]
    have := rd_case s hs hm (2 + m) (by omega) (by omega) (rdN s) (fun W => by
      have r := rl_loop _ _ hs1 hm1 m h1 h2 (by rw [b0]; exact hbm) (by rw [z1]; omega) CL 0 _ _ (by omega) (.inr ⟨by omega, rfl, rfl, rfl⟩) W
      rw [← eN, z1, ext_to s 1 (1 + m) (s.size - 1) (by omega) (by omega), show 1 + (s.size - 1) = s.size by omega, show 1 + (1 + m) = 2 + m by omega] at r
      exact r) w
    rw [eE, eH]
    by_cases c4 : s.size < 2 + m + rdN s
    · rw [if_pos c4] at this ⊢; rw [if_neg (by decide)]; exact this
    · rw [if_neg c4] at this ⊢; rw [if_pos rfl]; exact this
/- There and back. -/
end Go.Proofs.YtjdpeedghpblgaaGreatDoor
