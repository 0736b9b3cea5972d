/- There and back: SivBack. -/
import Derived.Test.YtogkijjmimaccaaJ37
set_option linter.all false
set_option maxRecDepth 100000
namespace Go.Proofs.Ytogkijjmimaccaa
open Go.RowKit Go.Sort Lin
/-- Crossed twice is not at all. -/
theorem cr_cr (h : ByteArray) (v : Nat → By) (t : ByteArray) : crV h v (crV h v t) = t := by
  refine text_ext (by rw [crV_size, crV_size]) (fun j hj => ?_)
  rw [crV_size, crV_size] at hj
  have e : crV h v (crV h v t) = xS (crV h v t) (smS h (bF (tx (mk v))) t.size) := by
    show xS (crV h v t) (smS h (bF (tx (mk v))) (crV h v t).size) = _
    rw [crV_size]
  rw [e, xS_bF _ _ j (by rw [crV_size]; exact hj)]
  show xr (bF (xS t (smS h (bF (tx (mk v))) t.size)) j) _ = _
  rw [xS_bF _ _ j hj, xr_back]
theorem ext_16 (a b : ByteArray) (ha : a.size = 16) : (a ++ b).extract 16 (a ++ b).size = b := by
  apply ba_ext
  rw [ext_list, ap_list, app_size, List.drop_left' (by rw [len_list]; exact ha), List.take_of_length_le (by rw [len_list]; omega)]
theorem cut_back (s : ByteArray) (hs : 16 ≤ s.size) : s.extract 0 16 ++ s.extract 16 s.size = s := by
  apply ba_ext
  rw [ap_list, ext_list, ext_list, List.drop_zero, Nat.sub_zero]
  rw [List.take_of_length_le (l := s.data.toList.drop 16) (by rw [List.length_drop, len_list]; omega)]
  exact List.take_append_drop _ _
theorem seS_bF (key : ByteArray) (ad : List ByteArray) (p : ByteArray) (j : Nat) (hj : j < 16) : bF (seS key ad p) j = vF key ad p j := by
  unfold seS
  rw [bF_lo _ _ j (by rw [tx_size]; exact hj), bF_tx _ j hj]
theorem opP_se (key : ByteArray) (ad : List ByteArray) (p : ByteArray) : opP key (seS key ad p) = p := by
  have e : (seS key ad p).extract 16 (seS key ad p).size = crV (hf2 key) (vF key ad p) p := ext_16 _ _ (tx_size _)
  unfold opP
  rw [e, crV_congr (hf2 key) (fun j hj => seS_bF key ad p j hj), cr_cr]
/-- What is sealed is opened. -/
theorem op_se (key : ByteArray) (ad : List ByteArray) (p : ByteArray) (h : slE key ad.length = 0) : opE key ad (seS key ad p) = 0 ∧ opS key ad (seS key ad p) = p := by
  have z := seS_size key ad p
  have e : opE key ad (seS key ad p) = 0 := by
    unfold opE
    rw [if_pos h, if_neg (by omega), opP_se, if_pos ((isB_iff _ _).2 (fun j hj => (seS_bF key ad p j hj).symm))]
  refine ⟨e, ?_⟩
  unfold opS
  rw [if_pos e, opP_se]
theorem opE_0 {key : ByteArray} {ad : List ByteArray} {s : ByteArray} (h : opE key ad s = 0) : slE key ad.length = 0 ∧ 16 ≤ s.size ∧ isB (vF key ad (opP key s)) (bF s) = true := by
  unfold opE at h
  by_cases h1 : slE key ad.length = 0
  · rw [if_pos h1] at h
    by_cases h2 : s.size < 16
    · rw [if_pos h2] at h; omega
    · rw [if_neg h2] at h
      by_cases h3 : isB (vF key ad (opP key s)) (bF s) = true
      · exact ⟨h1, by omega, h3⟩
      · rw [if_neg h3] at h; omega
  · rw [if_neg h1] at h; exact absurd h h1
/-- What is opened is what sealing makes of that again. -/
theorem se_op {key : ByteArray} {ad : List ByteArray} {s : ByteArray} (h : opE key ad s = 0) : seR key ad (opS key ad s) = s ∧ (opS key ad s).size ≤ s.size := by
  obtain ⟨h1, h2, h3⟩ := opE_0 h
  have e : opS key ad s = opP key s := by unfold opS; rw [if_pos h]
  rw [e]
  constructor
  · unfold seR
    rw [if_pos h1]
    unfold seS
    rw [(tag_iff _ s h2).2 h3, crV_congr (hf2 key) ((isB_iff _ _).1 h3)]
    have e2 : crV (hf2 key) (bF s) (opP key s) = s.extract 16 s.size := cr_cr _ _ _
    rw [e2, cut_back s h2]
  · rw [opP_size]; omega
set_option maxHeartbeats 1000000 in
theorem back_none1 (k s : ByteArray) (v : Value) (w : World)
    (C8 : Calls Try.prog 8 #[(.slice (some ⟨w.heap.size, 0, none⟩) 2 2)] (w.alloc (.cells #[.string k, .string s] 9)) fun e w' => e = .returned (.bool false) ∧ w' = (w.alloc (.cells #[.string k, .string s] 9)))
    (C9 : ∀ W, Calls Try.prog 9 #[] W fun e w' => e = .returned (.bool true) ∧ Below W.heap.size W w') :
    Calls Try.prog 5 #[.string k, v, .string s] w fun e w' => e = .returned (.bool true) ∧ Below w.heap.size w w' := by
  have B0 : Below w.heap.size w (w.alloc (.cells #[.string k, .string s] 9)) := by go_grown
  have hnot : ∀ (x : Bool) (w : World), (Op.unary .not (.bool x)).run Try.prog w = .ok (.bool (!x)) w := fun _ _ => rfl
  go_enter Try.func5, Try.ntmps5
  go_wp2_with (go_at_call 8; refine C8.mono ?_; rintro q w1 ⟨rfl, rfl⟩)
  refine (C9 _).mono ?_
  rintro q w1 ⟨rfl, hb⟩
  go_wp2_with fail
  go_ret
  exact ⟨rfl, Bel.call B0 hb⟩
set_option maxHeartbeats 1000000 in
theorem back_none2 (k s : ByteArray) (v : Value) (w : World)
    (C8 : Calls Try.prog 8 #[(.slice (some ⟨w.heap.size, 0, none⟩) 2 2)] (w.alloc (.cells #[.string k, .string s] 9)) fun e w' => e = .returned (.bool true) ∧ w' = (w.alloc (.cells #[.string k, .string s] 9)))
    (C8l : Calls Try.prog 8 #[v] (w.alloc (.cells #[.string k, .string s] 9)) fun e w' => e = .returned (.bool false) ∧ w' = (w.alloc (.cells #[.string k, .string s] 9)))
    (C9 : ∀ W, Calls Try.prog 9 #[] W fun e w' => e = .returned (.bool true) ∧ Below W.heap.size W w') :
    Calls Try.prog 5 #[.string k, v, .string s] w fun e w' => e = .returned (.bool true) ∧ Below w.heap.size w w' := by
  have B0 : Below w.heap.size w (w.alloc (.cells #[.string k, .string s] 9)) := by go_grown
  have hnot : ∀ (x : Bool) (w : World), (Op.unary .not (.bool x)).run Try.prog w = .ok (.bool (!x)) w := fun _ _ => rfl
  go_enter Try.func5, Try.ntmps5
  go_wp2_with fail
  refine C8.mono ?_
  rintro q w1 ⟨rfl, rfl⟩
  clear C8
  go_wp2_with fail
  refine C8l.mono ?_
  rintro q w1 ⟨rfl, rfl⟩
  clear C8l
  go_wp2_with fail
  refine (C9 _).mono ?_
  rintro q w1 ⟨rfl, hb⟩
  go_wp2_with fail
  go_ret
  exact ⟨rfl, Bel.call B0 hb⟩
set_option maxHeartbeats 2000000 in
theorem back_nokey (k s : ByteArray) (a0 : Option Addr) (n cap : Nat) (v : Value) (ev : v = .slice a0 n cap) (l : List ByteArray) (X U : ByteArray) (e g : Int) (he : ¬ e = 0) (hg : ¬ g = 0) (h1 : ¬ k.size = 32) (h2 : ¬ k.size = 64) (w : World) (hv : Txs w v l)
    (C8 : Calls Try.prog 8 #[(.slice (some ⟨w.heap.size, 0, none⟩) 2 2)] (w.alloc (.cells #[.string k, .string s] 9)) fun e w' => e = .returned (.bool true) ∧ w' = (w.alloc (.cells #[.string k, .string s] 9)))
    (C8l : Calls Try.prog 8 #[v] (w.alloc (.cells #[.string k, .string s] 9)) fun e w' => e = .returned (.bool true) ∧ w' = (w.alloc (.cells #[.string k, .string s] 9)))
    (C16 : ∀ W, Txs W v l → Calls Try.prog 16 #[.string k, v, .string s] W fun q w' => q = .returned (.tuple #[.string X, .int .i64 e]) ∧ Below W.heap.size W w')
    (C18 : ∀ W, Txs W v l → Calls Try.prog 18 #[.string k, v, .string s] W fun q w' => q = .returned (.tuple #[.string U, .int .i64 g]) ∧ Below W.heap.size W w')
    (C9 : ∀ W, Calls Try.prog 9 #[] W fun e w' => e = .returned (.bool true) ∧ Below W.heap.size W w') :
    Calls Try.prog 5 #[.string k, v, .string s] w fun e w' => e = .returned (.bool true) ∧ Below w.heap.size w w' := by
  subst ev
  have j1 : ((k.size : Int) == 32) = false := by simp; omega
  have j2 : ((k.size : Int) == 64) = false := by simp; omega
  clear h1 h2
  have B0 : Below w.heap.size w (w.alloc (.cells #[.string k, .string s] 9)) := by go_grown
  have hnot : ∀ (x : Bool) (w : World), (Op.unary .not (.bool x)).run Try.prog w = .ok (.bool (!x)) w := fun _ _ => rfl
  go_enter Try.func5, Try.ntmps5
  go_wp2_with fail
  refine C8.mono ?_
  rintro q w1 ⟨rfl, rfl⟩
  clear C8
  go_wp2_with fail
  refine C8l.mono ?_
  rintro q w1 ⟨rfl, rfl⟩
  clear C8l
  have hX0 := hv.to B0
  clear hv
  generalize (w.alloc (.cells #[.string k, .string s] 9)) = w0 at *
  go_wp2_with fail
  refine (C16 _ hX0).mono ?_
  rintro q w1 ⟨rfl, hb⟩
  have B1 := Bel.call B0 hb
  have hX1 := hX0.to hb
  clear hb B0 hX0
  go_wp2_with fail
  refine (C18 _ hX1).mono ?_
  rintro q w2 ⟨rfl, hb⟩
  have B2 := Bel.call B1 hb
  have hX2 := hX1.to hb
  clear hb B1 hX1
  clear C16 C18
  go_wp2_with fail
  refine (C9 _).mono ?_
  rintro q w3 ⟨rfl, hb⟩
  go_wp2_with fail
  go_ret
  exact ⟨rfl, Bel.call B2 hb⟩
set_option maxHeartbeats 2000000 in
theorem back_many32 (k s : ByteArray) (a0 : Option Addr) (n cap : Nat) (v : Value) (ev : v = .slice a0 n cap) (l : List ByteArray) (X U : ByteArray) (e g : Int) (he : ¬ e = 0) (hg : ¬ g = 0) (h1 : k.size = 32) (h2 : 127 ≤ n) (w : World) (hv : Txs w v l)
    (C8 : Calls Try.prog 8 #[(.slice (some ⟨w.heap.size, 0, none⟩) 2 2)] (w.alloc (.cells #[.string k, .string s] 9)) fun e w' => e = .returned (.bool true) ∧ w' = (w.alloc (.cells #[.string k, .string s] 9)))
    (C8l : Calls Try.prog 8 #[v] (w.alloc (.cells #[.string k, .string s] 9)) fun e w' => e = .returned (.bool true) ∧ w' = (w.alloc (.cells #[.string k, .string s] 9)))
    (C16 : ∀ W, Txs W v l → Calls Try.prog 16 #[.string k, v, .string s] W fun q w' => q = .returned (.tuple #[.string X, .int .i64 e]) ∧ Below W.heap.size W w')
    (C18 : ∀ W, Txs W v l → Calls Try.prog 18 #[.string k, v, .string s] W fun q w' => q = .returned (.tuple #[.string U, .int .i64 g]) ∧ Below W.heap.size W w')
    (C9 : ∀ W, Calls Try.prog 9 #[] W fun e w' => e = .returned (.bool true) ∧ Below W.heap.size W w') :
    Calls Try.prog 5 #[.string k, v, .string s] w fun e w' => e = .returned (.bool true) ∧ Below w.heap.size w w' := by
  subst ev
  have j1 : (k.size : Int) = 32 := by omega
  have j2 : ¬ (n : Int) ≤ 126 := by omega
  have e0 : (e == 0) = false := by simp [he]
  have d0 : decide ((n : Int) ≤ 126) = false := by simp; omega
  clear h1 h2
  have B0 : Below w.heap.size w (w.alloc (.cells #[.string k, .string s] 9)) := by go_grown
  have hnot : ∀ (x : Bool) (w : World), (Op.unary .not (.bool x)).run Try.prog w = .ok (.bool (!x)) w := fun _ _ => rfl
  go_enter Try.func5, Try.ntmps5
  go_wp2_with fail
  refine C8.mono ?_
  rintro q w1 ⟨rfl, rfl⟩
  clear C8
  go_wp2_with fail
  refine C8l.mono ?_
  rintro q w1 ⟨rfl, rfl⟩
  clear C8l
  have hX0 := hv.to B0
  clear hv
  generalize (w.alloc (.cells #[.string k, .string s] 9)) = w0 at *
  go_wp2_with fail
  refine (C16 _ hX0).mono ?_
  rintro q w1 ⟨rfl, hb⟩
  have B1 := Bel.call B0 hb
  have hX1 := hX0.to hb
  clear hb B0 hX0
  go_wp2_with fail
  refine (C18 _ hX1).mono ?_
  rintro q w2 ⟨rfl, hb⟩
  have B2 := Bel.call B1 hb
  have hX2 := hX1.to hb
  clear hb B1 hX1
  clear C16 C18
  go_wp2_with fail
  refine (C9 _).mono ?_
  rintro q w3 ⟨rfl, hb⟩
  go_wp2_with fail
  go_ret
  exact ⟨rfl, Bel.call B2 hb⟩
set_option maxHeartbeats 2000000 in
theorem back_many64 (k s : ByteArray) (a0 : Option Addr) (n cap : Nat) (v : Value) (ev : v = .slice a0 n cap) (l : List ByteArray) (X U : ByteArray) (e g : Int) (he : ¬ e = 0) (hg : ¬ g = 0) (h1 : k.size = 64) (h2 : 127 ≤ n) (w : World) (hv : Txs w v l)
    (C8 : Calls Try.prog 8 #[(.slice (some ⟨w.heap.size, 0, none⟩) 2 2)] (w.alloc (.cells #[.string k, .string s] 9)) fun e w' => e = .returned (.bool true) ∧ w' = (w.alloc (.cells #[.string k, .string s] 9)))
    (C8l : Calls Try.prog 8 #[v] (w.alloc (.cells #[.string k, .string s] 9)) fun e w' => e = .returned (.bool true) ∧ w' = (w.alloc (.cells #[.string k, .string s] 9)))
    (C16 : ∀ W, Txs W v l → Calls Try.prog 16 #[.string k, v, .string s] W fun q w' => q = .returned (.tuple #[.string X, .int .i64 e]) ∧ Below W.heap.size W w')
    (C18 : ∀ W, Txs W v l → Calls Try.prog 18 #[.string k, v, .string s] W fun q w' => q = .returned (.tuple #[.string U, .int .i64 g]) ∧ Below W.heap.size W w')
    (C9 : ∀ W, Calls Try.prog 9 #[] W fun e w' => e = .returned (.bool true) ∧ Below W.heap.size W w') :
    Calls Try.prog 5 #[.string k, v, .string s] w fun e w' => e = .returned (.bool true) ∧ Below w.heap.size w w' := by
  subst ev
  have j1 : (k.size : Int) = 64 := by omega
  have j2 : ¬ (n : Int) ≤ 126 := by omega
  have e0 : (e == 0) = false := by simp [he]
  have d0 : decide ((n : Int) ≤ 126) = false := by simp; omega
  clear h1 h2
  have B0 : Below w.heap.size w (w.alloc (.cells #[.string k, .string s] 9)) := by go_grown
  have hnot : ∀ (x : Bool) (w : World), (Op.unary .not (.bool x)).run Try.prog w = .ok (.bool (!x)) w := fun _ _ => rfl
  go_enter Try.func5, Try.ntmps5
  go_wp2_with fail
  refine C8.mono ?_
  rintro q w1 ⟨rfl, rfl⟩
  clear C8
  go_wp2_with fail
  refine C8l.mono ?_
  rintro q w1 ⟨rfl, rfl⟩
  clear C8l
  have hX0 := hv.to B0
  clear hv
  generalize (w.alloc (.cells #[.string k, .string s] 9)) = w0 at *
  go_wp2_with fail
  refine (C16 _ hX0).mono ?_
  rintro q w1 ⟨rfl, hb⟩
  have B1 := Bel.call B0 hb
  have hX1 := hX0.to hb
  clear hb B0 hX0
  go_wp2_with fail
  refine (C18 _ hX1).mono ?_
  rintro q w2 ⟨rfl, hb⟩
  have B2 := Bel.call B1 hb
  have hX2 := hX1.to hb
  clear hb B1 hX1
  clear C16 C18
  go_wp2_with fail
  refine (C9 _).mono ?_
  rintro q w3 ⟨rfl, hb⟩
  go_wp2_with fail
  go_ret
  exact ⟨rfl, Bel.call B2 hb⟩
set_option maxHeartbeats 4000000 in
theorem back_yes32 (k s : ByteArray) (a0 : Option Addr) (n cap : Nat) (v : Value) (ev : v = .slice a0 n cap) (l : List ByteArray) (X U : ByteArray) (g : Int) (hk : k.size = 32) (hn : n < 127) (hX : X.size = s.size + 16) (hs : s.size ≤ 600) (w : World) (hv : Txs w v l)
    (C8 : Calls Try.prog 8 #[(.slice (some ⟨w.heap.size, 0, none⟩) 2 2)] (w.alloc (.cells #[.string k, .string s] 9)) fun e w' => e = .returned (.bool true) ∧ w' = (w.alloc (.cells #[.string k, .string s] 9)))
    (C8l : Calls Try.prog 8 #[v] (w.alloc (.cells #[.string k, .string s] 9)) fun e w' => e = .returned (.bool true) ∧ w' = (w.alloc (.cells #[.string k, .string s] 9)))
    (C16 : ∀ W, Txs W v l → Calls Try.prog 16 #[.string k, v, .string s] W fun q w' => q = .returned (.tuple #[.string X, .int .i64 0]) ∧ Below W.heap.size W w')
    (C18X : ∀ W, Txs W v l → Calls Try.prog 18 #[.string k, v, .string X] W fun q w' => q = .returned (.tuple #[.string s, .int .i64 0]) ∧ Below W.heap.size W w')
    (C18 : ∀ W, Txs W v l → Calls Try.prog 18 #[.string k, v, .string s] W fun q w' => q = .returned (.tuple #[.string U, .int .i64 g]) ∧ Below W.heap.size W w')
    (C16U : g = 0 → ∀ W, Txs W v l → Calls Try.prog 16 #[.string k, v, .string U] W fun q w' => q = .returned (.tuple #[.string s, .int .i64 0]) ∧ Below W.heap.size W w')
    (C9 : ∀ W, Calls Try.prog 9 #[] W fun e w' => e = .returned (.bool true) ∧ Below W.heap.size W w') :
    Calls Try.prog 5 #[.string k, v, .string s] w fun e w' => e = .returned (.bool true) ∧ Below w.heap.size w w' := by
  subst ev
  have j1 : (k.size : Int) = 32 := by omega
  have j2 : (n : Int) ≤ 126 := by omega
  have x1 : (X.size : Int) = (s.size : Int) + 16 := by omega
  have s1 : (s.size : Int) ≤ 600 := by omega
  clear hk hn hX hs
  have B0 : Below w.heap.size w (w.alloc (.cells #[.string k, .string s] 9)) := by go_grown
  have hnot : ∀ (x : Bool) (w : World), (Op.unary .not (.bool x)).run Try.prog w = .ok (.bool (!x)) w := fun _ _ => rfl
  go_enter Try.func5, Try.ntmps5
  go_wp2_with fail
  refine C8.mono ?_
  rintro q w1 ⟨rfl, rfl⟩
  clear C8
  go_wp2_with fail
  refine C8l.mono ?_
  rintro q w1 ⟨rfl, rfl⟩
  clear C8l
  have hX0 := hv.to B0
  clear hv
  generalize (w.alloc (.cells #[.string k, .string s] 9)) = w0 at *
  go_wp2_with fail
  refine (C16 _ hX0).mono ?_
  rintro q w1 ⟨rfl, hb⟩
  have B1 := Bel.call B0 hb
  have hX1 := hX0.to hb
  clear hb B0 hX0
  go_wp2_with fail
  refine (C18X _ hX1).mono ?_
  rintro q w2 ⟨rfl, hb⟩
  have B2 := Bel.call B1 hb
  have hX2 := hX1.to hb
  clear hb B1 hX1
  go_wp2_with fail
  refine (C16 _ hX2).mono ?_
  rintro q w3 ⟨rfl, hb⟩
  have B3 := Bel.call B2 hb
  have hX3 := hX2.to hb
  clear hb B2 hX2
  go_wp2_with fail
  refine (C18 _ hX3).mono ?_
  rintro q w4 ⟨rfl, hb⟩
  have B4 := Bel.call B3 hb
  have hX4 := hX3.to hb
  clear hb B3 hX3
  clear C16 C18 C18X
  by_cases hg : g = 0
  · have D := C16U hg
    subst hg
    clear C16U
    go_wp2_with fail
    refine (D _ hX4).mono ?_
    rintro q w5 ⟨rfl, hb⟩
    have B5 := Bel.call B4 hb
    have hX5 := hX4.to hb
    clear hb B4 hX4
    clear D
    go_wp2_with fail
    refine (C9 _).mono ?_
    rintro q w6 ⟨rfl, hb⟩
    go_wp2_with fail
    go_ret
    exact ⟨rfl, Bel.call B5 hb⟩
  · clear C16U
    go_wp2_with fail
    refine (C9 _).mono ?_
    rintro q w6 ⟨rfl, hb⟩
    go_wp2_with fail
    go_ret
    exact ⟨rfl, Bel.call B4 hb⟩
set_option maxHeartbeats 4000000 in
theorem back_yes64 (k s : ByteArray) (a0 : Option Addr) (n cap : Nat) (v : Value) (ev : v = .slice a0 n cap) (l : List ByteArray) (X U : ByteArray) (g : Int) (hk : k.size = 64) (hn : n < 127) (hX : X.size = s.size + 16) (hs : s.size ≤ 600) (w : World) (hv : Txs w v l)
    (C8 : Calls Try.prog 8 #[(.slice (some ⟨w.heap.size, 0, none⟩) 2 2)] (w.alloc (.cells #[.string k, .string s] 9)) fun e w' => e = .returned (.bool true) ∧ w' = (w.alloc (.cells #[.string k, .string s] 9)))
    (C8l : Calls Try.prog 8 #[v] (w.alloc (.cells #[.string k, .string s] 9)) fun e w' => e = .returned (.bool true) ∧ w' = (w.alloc (.cells #[.string k, .string s] 9)))
    (C16 : ∀ W, Txs W v l → Calls Try.prog 16 #[.string k, v, .string s] W fun q w' => q = .returned (.tuple #[.string X, .int .i64 0]) ∧ Below W.heap.size W w')
    (C18X : ∀ W, Txs W v l → Calls Try.prog 18 #[.string k, v, .string X] W fun q w' => q = .returned (.tuple #[.string s, .int .i64 0]) ∧ Below W.heap.size W w')
    (C18 : ∀ W, Txs W v l → Calls Try.prog 18 #[.string k, v, .string s] W fun q w' => q = .returned (.tuple #[.string U, .int .i64 g]) ∧ Below W.heap.size W w')
    (C16U : g = 0 → ∀ W, Txs W v l → Calls Try.prog 16 #[.string k, v, .string U] W fun q w' => q = .returned (.tuple #[.string s, .int .i64 0]) ∧ Below W.heap.size W w')
    (C9 : ∀ W, Calls Try.prog 9 #[] W fun e w' => e = .returned (.bool true) ∧ Below W.heap.size W w') :
    Calls Try.prog 5 #[.string k, v, .string s] w fun e w' => e = .returned (.bool true) ∧ Below w.heap.size w w' := by
  subst ev
  have j1 : (k.size : Int) = 64 := by omega
  have j2 : (n : Int) ≤ 126 := by omega
  have x1 : (X.size : Int) = (s.size : Int) + 16 := by omega
  have s1 : (s.size : Int) ≤ 600 := by omega
  clear hk hn hX hs
  have B0 : Below w.heap.size w (w.alloc (.cells #[.string k, .string s] 9)) := by go_grown
  have hnot : ∀ (x : Bool) (w : World), (Op.unary .not (.bool x)).run Try.prog w = .ok (.bool (!x)) w := fun _ _ => rfl
  go_enter Try.func5, Try.ntmps5
  go_wp2_with fail
  refine C8.mono ?_
  rintro q w1 ⟨rfl, rfl⟩
  clear C8
  go_wp2_with fail
  refine C8l.mono ?_
  rintro q w1 ⟨rfl, rfl⟩
  clear C8l
  have hX0 := hv.to B0
  clear hv
  generalize (w.alloc (.cells #[.string k, .string s] 9)) = w0 at *
  go_wp2_with fail
  refine (C16 _ hX0).mono ?_
  rintro q w1 ⟨rfl, hb⟩
  have B1 := Bel.call B0 hb
  have hX1 := hX0.to hb
  clear hb B0 hX0
  go_wp2_with fail
  refine (C18X _ hX1).mono ?_
  rintro q w2 ⟨rfl, hb⟩
  have B2 := Bel.call B1 hb
  have hX2 := hX1.to hb
  clear hb B1 hX1
  go_wp2_with fail
  refine (C16 _ hX2).mono ?_
  rintro q w3 ⟨rfl, hb⟩
  have B3 := Bel.call B2 hb
  have hX3 := hX2.to hb
  clear hb B2 hX2
  go_wp2_with fail
  refine (C18 _ hX3).mono ?_
  rintro q w4 ⟨rfl, hb⟩
  have B4 := Bel.call B3 hb
  have hX4 := hX3.to hb
  clear hb B3 hX3
  clear C16 C18 C18X
  by_cases hg : g = 0
  · have D := C16U hg
    subst hg
    clear C16U
    go_wp2_with fail
    refine (D _ hX4).mono ?_
    rintro q w5 ⟨rfl, hb⟩
    have B5 := Bel.call B4 hb
    have hX5 := hX4.to hb
    clear hb B4 hX4
    clear D
    go_wp2_with fail
    refine (C9 _).mono ?_
    rintro q w6 ⟨rfl, hb⟩
    go_wp2_with fail
    go_ret
    exact ⟨rfl, Bel.call B5 hb⟩
  · clear C16U
    go_wp2_with fail
    refine (C9 _).mono ?_
    rintro q w6 ⟨rfl, hb⟩
    go_wp2_with fail
    go_ret
    exact ⟨rfl, Bel.call B4 hb⟩
theorem back_law (k : ByteArray) (v : Value) (l : List ByteArray) (s : ByteArray) (hk : k.size ≤ maxLen) (hs : s.size ≤ maxLen) (hn : l.length ≤ maxLen) (hg : ∀ t ∈ l, t.size ≤ maxLen) (w : World) (hv : Txs w v l) :
    Calls Try.prog 5 #[.string k, v, .string s] w fun e w' => e = .returned (.bool true) ∧ Below w.heap.size w w' := by
  have C8 := short2 k s hk hs w
  have C8l := short_any l v hn hg _ (hv.to (show Below w.heap.size w (w.alloc (.cells #[.string k, .string s] 9)) by go_grown))
  cases h1 : shB [k, s] with
  | false =>
    rw [h1] at C8
    exact back_none1 k s v w C8 (fun W => awake_any W)
  | true =>
    rw [h1] at C8
    cases h2 : shB l with
    | false =>
      rw [h2] at C8l
      exact back_none2 k s v w C8 C8l (fun W => awake_any W)
    | true =>
      rw [h2] at C8l
      obtain ⟨z1, z2⟩ := sh2 h1
      obtain ⟨z3, z4⟩ := shB_1 h2
      have z5 : ∀ t ∈ l, t.size ≤ 1000000 := fun t ht => Nat.le_trans (z4 t ht) (by decide)
      obtain ⟨a0, cap, ev⟩ := txs_len hv
      have C16 := fun W hW => sSeal_any k v l s (by omega) z5 (by omega) W hW
      have C18 := fun W hW => sOpen_any k v l s (by omega) z5 (by omega) W hW
      by_cases h : slE k l.length = 0
      · obtain ⟨q1, q2⟩ := slE_0.1 h
        have e : seR k l s = seS k l s := by unfold seR; rw [if_pos h]
        rw [e, h] at C16
        have z := seS_size k l s
        have C18X := fun W hW => sOpen_any k v l (seS k l s) (by omega) z5 (by omega) W hW
        rw [(op_se k l s h).1, (op_se k l s h).2] at C18X
        have C16U : opE k l s = 0 → ∀ W, Txs W v l → Calls Try.prog 16 #[.string k, v, .string (opS k l s)] W fun q w' => q = .returned (.tuple #[.string s, .int .i64 0]) ∧ Below W.heap.size W w' := fun hq W hW => by
          obtain ⟨u1, u2⟩ := se_op hq
          have := sSeal_any k v l (opS k l s) (by omega) z5 (by omega) W hW
          rwa [u1, h] at this
        rcases q1 with q1 | q1
        · exact back_yes32 k s a0 _ cap v ev l _ _ _ q1 q2 z z2 w hv C8 C8l C16 C18X C18 C16U (fun W => awake_any W)
        · exact back_yes64 k s a0 _ cap v ev l _ _ _ q1 q2 z z2 w hv C8 C8l C16 C18X C18 C16U (fun W => awake_any W)
      · have hg' : ¬ opE k l s = 0 := fun q => h (opE_0 q).1
        by_cases q1 : k.size = 32
        · exact back_many32 k s a0 _ cap v ev l _ _ _ _ h hg' q1 (Nat.not_lt.1 fun q => h (slE_0.2 ⟨.inl q1, q⟩)) w hv C8 C8l C16 C18 (fun W => awake_any W)
        · by_cases q2 : k.size = 64
          · exact back_many64 k s a0 _ cap v ev l _ _ _ _ h hg' q2 (Nat.not_lt.1 fun q => h (slE_0.2 ⟨.inr q2, q⟩)) w hv C8 C8l C16 C18 (fun W => awake_any W)
          · exact back_nokey k s a0 _ cap v ev l _ _ _ _ h hg' q1 q2 w hv C8 C8l C16 C18 (fun W => awake_any W)
end Go.Proofs.Ytogkijjmimaccaa
