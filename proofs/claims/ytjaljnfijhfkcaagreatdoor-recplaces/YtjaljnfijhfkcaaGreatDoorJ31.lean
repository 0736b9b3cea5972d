/- Sealers: of a key and a nonce; tags; texts crossed. -/
import Derived.Test.YtjaljnfijhfkcaaGreatDoorJ30
set_option linter.all false
set_option maxRecDepth 100000
namespace Go.Proofs.YtjaljnfijhfkcaaGreatDoor
open Go.RowKit Go.Sort Lin
/-- A sealer's cells. -/
def s6 (key nonce : ByteArray) (x y u v : Int) (j : Nat) : Value := if j = 0 then .string key else if j = 1 then .string nonce else if j = 2 then .int .u64 x else if j = 3 then .int .u64 y else if j = 4 then .int .u64 u else .int .u64 v
theorem s6_at (key nonce : ByteArray) (x y u v : Int) (j : Nat) (hj : j < 6) : (#[.string key, .string nonce, .int .u64 x, .int .u64 y, .int .u64 u, .int .u64 v] : Array Value)[j]? = some (s6 key nonce x y u v j) := by
  have : j = 0 ∨ j = 1 ∨ j = 2 ∨ j = 3 ∨ j = 4 ∨ j = 5 := by omega
  rcases this with rfl | rfl | rfl | rfl | rfl | rfl <;> rfl
set_option maxHeartbeats 1000000 in
theorem tag_core (key nonce ad c : ByteArray) (x y u v p q r s : Int) (w : World)
    (C24 : ∀ W, Calls Tryz.prog 78 #[gk x y, .string ad, .string c] W fun e w' => e = .returned (gk p q) ∧ Below W.heap.size W w')
    (C35 : ∀ W, Calls Tryz.prog 79 #[gk p q, gk u v] W fun e w' => e = .returned (gk r s) ∧ Below W.heap.size W w') :
    Calls Tryz.prog 55 #[sl key nonce x y u v, .string ad, .string c] w fun e w' => e = .returned (gk r s) ∧ Below w.heap.size w w' := by
  unfold sl gk at *
  go_enter Tryz.func55, Tryz.ntmps55
  go_wp2_with fail
  have A0 : Arr _ _ 6 _ := (Arr.new w _ 107 _ rfl _ 6 (s6_at key nonce x y u v)).al' (n := 5) (.cells #[.int .u64 0, .int .u64 0] 105)
  have A1 := Arr.new (w.alloc (.cells #[.string key, .string nonce, .int .u64 x, .int .u64 y, .int .u64 u, .int .u64 v] 107)) _ 105 (w.heap.size + 1) (by simp) _ 2 (g2_at 0 0)
  have hB : Below w.heap.size w ((w.alloc (.cells #[.string key, .string nonce, .int .u64 x, .int .u64 y, .int .u64 u, .int .u64 v] 107)).alloc (.cells #[.int .u64 0, .int .u64 0] 105)) := by go_grown
  generalize ((w.alloc (.cells #[.string key, .string nonce, .int .u64 x, .int .u64 y, .int .u64 u, .int .u64 v] 107)).alloc (.cells #[.int .u64 0, .int .u64 0] 105)) = W at *
  have r0 := fun ds os => cell_regrown (A0.cv 2 (by omega) (.int .u64 x) rfl) ds os
  have r1 := fun ds os => cell_regrown (A0.cv 3 (by omega) (.int .u64 y) rfl) ds os
  have r2 := fun ds os => cell_regrown (A0.cv 4 (by omega) (.int .u64 u) rfl) ds os
  have r3 := fun ds os => cell_regrown (A0.cv 5 (by omega) (.int .u64 v) rfl) ds os
  refine wp_region_below_tail 8 (by kernel_rfl) (by kernel_rfl) ?_
  simp only [List.take_succ_cons, List.take_zero, List.drop_succ_cons, List.drop_zero]
  repeat (go_big_quiet_step (first | (go_at_call 78; exact Calls.regrown_of (C24 _)) | (go_at_call 79; exact Calls.regrown_of (C35 _))))
  refine wpQuiet_nil ?_
  intro w1 hw'
  obtain ⟨⟨dq, osq⟩, hw''⟩ := hw'
  have hb1 := below_of hw''
  clear hw'' r0 r1 r2 r3
  have B1 := A1.to' hb1
  have hB1 := Bel.call hB hb1
  clear A0 A1 hB hb1 C24 C35
  have c0 := B1.c 0 (by omega)
  have c1 := B1.c 1 (by omega)
  have z0 := B1.z 0 (by omega)
  have z1 := B1.z 1 (by omega)
  have E := B1.st2 r s
  have e0 := E.h
  have e1 := E.l
  unfold st2 at e0 e1
  go_wp2_with fail
  refine bodyPost_ret (v := gk r s) (by simp [gk, results, Tryz.results55, go_sem, e0, e1]) rfl ⟨rfl, Bel.st2 hB1 (by omega) r s⟩
theorem tag_any (key nonce ad c : ByteArray) (ha : ad.size ≤ 1000000) (hc : c.size ≤ 1000000) {h m : Nat} (hh : h < 2 ^ 128) (hm : m < 2 ^ 128) (w : World) :
    Calls Tryz.prog 55 #[sl key nonce (hi h) (lo h) (hi m) (lo m), .string ad, .string c] w fun e w' => e = .returned (gB (hF h (hBl ad c) ^^^ m)) ∧ Below w.heap.size w w' :=
  tag_core key nonce ad c _ _ _ _ _ _ _ _ w (fun W => hashed_core ad c ha hc h hh W) (fun W => gplus_any (hF_lt hh _) hm W)
theorem xL_comm (n : Nat) (f g : Nat → By) : xL n f g = xL n g f := by
  unfold xL
  refine List.map_congr_left fun j _ => ?_
  rw [xr_comm]
abbrev n1 : ByteArray := ⟨#[0, 0, 0, 1]⟩
abbrev n2 : ByteArray := ⟨#[0, 0, 0, 2]⟩
/-- A text crossed with the stream. -/
def crS (key nonce t : ByteArray) : ByteArray := xS t (smS key (bF (nonce ++ n2)) t.size)
theorem crS_size (key nonce t : ByteArray) : (crS key nonce t).size = t.size := xS_size _ _
theorem app_size (a b : ByteArray) : (a ++ b).size = a.size + b.size := ByteArray.size_append
theorem rfs_12 {key nonce n : ByteArray} (hk : Key key) (hn : nonce.size = 12) (h4 : n.size = 4) : rfs key (nonce ++ n) = 0 := by
  unfold rfs
  rw [if_pos ((isK_iff key).2 hk), if_pos (by rw [app_size]; omega)]
theorem crossed_any (key nonce t : ByteArray) (x y u v : Int) (hk : Key key) (hn : nonce.size = 12) (ht : t.size ≤ 65536) (w : World) :
    Calls Tryz.prog 54 #[sl key nonce x y u v, .string t] w fun e w' => e = .returned (.string (crS key nonce t)) ∧ Below w.heap.size w w' := by
  refine crossed_core key nonce t (smS key (bF (nonce ++ n2)) t.size) _ x y u v hn (smS_size _ _ _) (by omega) ?_ w (fun W => ?_)
  · rw [smS_size, xL_comm]
    rfl
  · have := stream_any key (nonce ++ n2) (t.size : Int) W
    have e : rfn key (nonce ++ n2) (t.size : Int) = 0 := by
      unfold rfn
      rw [if_neg (by omega)]
      exact rfs_12 hk hn rfl
    rw [e, if_pos rfl, Int.toNat_natCast] at this
    exact this
/-- A sealer put into a block. -/
def st6 (w : World) (b : Nat) (key nonce : ByteArray) (x y u v : Int) : World := (((((w.setCell ⟨b, 0, none⟩ (.string key)).setCell ⟨b, 1, none⟩ (.string nonce)).setCell ⟨b, 2, none⟩ (.int .u64 x)).setCell ⟨b, 3, none⟩ (.int .u64 y)).setCell ⟨b, 4, none⟩ (.int .u64 u)).setCell ⟨b, 5, none⟩ (.int .u64 v)
theorem Arr.st6 {w : World} {b : Nat} {f : Nat → Value} (h : Arr w b 6 f) (key nonce : ByteArray) (x y u v : Int) : Arr (st6 w b key nonce x y u v) b 6 (s6 key nonce x y u v) :=
  ((((((h.set 0 (by omega) _).set 1 (by omega) _).set 2 (by omega) _).set 3 (by omega) _).set 4 (by omega) _).set 5 (by omega) _).congr (by
    intro j hj
    have : j = 0 ∨ j = 1 ∨ j = 2 ∨ j = 3 ∨ j = 4 ∨ j = 5 := by omega
    rcases this with rfl | rfl | rfl | rfl | rfl | rfl <;> simp [s6])
theorem Bel.st6 {w W : World} (h : Below w.heap.size w W) {b : Nat} (hle : w.heap.size ≤ b) (key nonce : ByteArray) (x y u v : Int) : Below w.heap.size w (Go.Proofs.YtjaljnfijhfkcaaGreatDoor.st6 W b key nonce x y u v) := Bel.st (Bel.st (Bel.st (Bel.st (Bel.st (Bel.st h hle _) hle _) hle _) hle _) hle _) hle _
theorem Arr.six {w : World} {b : Nat} {key nonce : ByteArray} {x y u v : Int} (h : Arr w b 6 (s6 key nonce x y u v)) : w.cell? ⟨b, 0, none⟩ = some (.string key) ∧ w.cell? ⟨b, 1, none⟩ = some (.string nonce) ∧ w.cell? ⟨b, 2, none⟩ = some (.int .u64 x) ∧ w.cell? ⟨b, 3, none⟩ = some (.int .u64 y) ∧ w.cell? ⟨b, 4, none⟩ = some (.int .u64 u) ∧ w.cell? ⟨b, 5, none⟩ = some (.int .u64 v) :=
  ⟨h.c 0 (by omega), h.c 1 (by omega), h.c 2 (by omega), h.c 3 (by omega), h.c 4 (by omega), h.c 5 (by omega)⟩
set_option maxHeartbeats 400000 in
theorem sealerOf_no (key nonce s : ByteArray) (r : Int) (hr : ¬ r = 0) (hn : nonce.size ≤ 1000000) (w : World)
    (C39 : ∀ W, Calls Tryz.prog 76 #[.string key, .string (nonce ++ ⟨#[0, 0, 0, 1]⟩)] W fun e w' => e = .returned (.tuple #[.string s, .int .i64 r]) ∧ Below W.heap.size W w') :
    Calls Tryz.prog 53 #[.string key, .string nonce] w fun e w' => e = .returned (.tuple #[sl ⟨#[]⟩ ⟨#[]⟩ 0 0 0 0, .int .i64 r]) ∧ Below w.heap.size w w' := by
  have n12 : (nonce.size : Int) ≤ 1000000 := by omega
  go_enter Tryz.func53, Tryz.ntmps53
  go_wp2_with fail
  have A0 : Arr _ _ 6 _ := (Arr.new w _ 107 _ rfl _ 6 (s6_at ⟨#[]⟩ ⟨#[]⟩ 0 0 0 0))
  refine (C39 _).mono ?_
  rintro e w1 ⟨rfl, B1⟩
  have A1 : Arr _ _ 6 _ := A0.to' (n := 5) B1
  replace B1 : Below w.heap.size w w1 := Bel.call (by go_grown) B1
  clear C39 A0
  have c := A1.c
  have z := A1.z
  go_wp2_with fail
  obtain ⟨e0, e1, e2, e3, e4, e5⟩ := (A1.st6 ⟨#[]⟩ ⟨#[]⟩ 0 0 0 0).six
  unfold st6 at e0 e1 e2 e3 e4 e5
  have E1 : Below w.heap.size w (st6 w1 w.heap.size ⟨#[]⟩ ⟨#[]⟩ 0 0 0 0) := Bel.st6 B1 (Nat.le_refl _) ⟨#[]⟩ ⟨#[]⟩ 0 0 0 0
  unfold st6 at E1
  clear c z A1
  generalize (((((w1.setCell ⟨w.heap.size, 0, none⟩ (.string ⟨#[]⟩)).setCell ⟨w.heap.size, 1, none⟩ (.string ⟨#[]⟩)).setCell ⟨w.heap.size, 2, none⟩ (.int .u64 0)).setCell ⟨w.heap.size, 3, none⟩ (.int .u64 0)).setCell ⟨w.heap.size, 4, none⟩ (.int .u64 0)).setCell ⟨w.heap.size, 5, none⟩ (.int .u64 0) = V at *
  refine bodyPost_ret (v := .tuple #[sl ⟨#[]⟩ ⟨#[]⟩ 0 0 0 0, .int .i64 r]) ?_ rfl ⟨rfl, E1⟩
  simp [sl, results, Tryz.results53, go_sem, e0, e1, e2, e3, e4, e5]
set_option maxHeartbeats 1000000 in
theorem sealerOf_yes (key nonce s Z t : ByteArray) (x y u v : Int) (hn : nonce.size ≤ 1000000) (w : World)
    (C39 : ∀ W, Calls Tryz.prog 76 #[.string key, .string (nonce ++ ⟨#[0, 0, 0, 1]⟩)] W fun e w' => e = .returned (.tuple #[.string s, .int .i64 0]) ∧ Below W.heap.size W w')
    (C22 : ∀ W, Calls Tryz.prog 56 #[gk 0 0] W fun e w' => e = .returned (.string Z) ∧ Below W.heap.size W w')
    (C39' : ∀ W, Calls Tryz.prog 76 #[.string key, .string Z] W fun e w' => e = .returned (.tuple #[.string t, .int .i64 0]) ∧ Below W.heap.size W w')
    (C20h : ∀ W, Calls Tryz.prog 70 #[.string t] W fun e w' => e = .returned (gk x y) ∧ Below W.heap.size W w')
    (C20m : ∀ W, Calls Tryz.prog 70 #[.string s] W fun e w' => e = .returned (gk u v) ∧ Below W.heap.size W w') :
    Calls Tryz.prog 53 #[.string key, .string nonce] w fun e w' => e = .returned (.tuple #[sl key nonce x y u v, .int .i64 0]) ∧ Below w.heap.size w w' := by
  have n12 : (nonce.size : Int) ≤ 1000000 := by omega
  unfold gk at *
  go_enter Tryz.func53, Tryz.ntmps53
  go_wp2_with fail
  have A0 : Arr _ _ 6 _ := (Arr.new w _ 107 _ rfl _ 6 (s6_at ⟨#[]⟩ ⟨#[]⟩ 0 0 0 0))
  refine (C39 _).mono ?_
  rintro e w1 ⟨rfl, B1⟩
  have A1 : Arr _ _ 6 _ := A0.to' (n := 5) B1
  replace B1 : Below w.heap.size w w1 := Bel.call (by go_grown) B1
  clear C39 A0
  go_wp2_with fail
  refine (C22 _).mono ?_
  rintro e w2 ⟨rfl, B2⟩
  have A2 : Arr _ _ 6 _ := A1.to' (n := 5) B2
  replace B2 := Bel.call B1 B2
  clear B1 A1 C22
  go_wp2_with fail
  refine (C39' _).mono ?_
  rintro e w3 ⟨rfl, B3⟩
  have A3 : Arr _ _ 6 _ := A2.to' (n := 5) B3
  replace B3 := Bel.call B2 B3
  clear B2 A2 C39'
  go_wp2_with fail
  refine (C20h _).mono ?_
  rintro e w4 ⟨rfl, B4⟩
  have A4 : Arr _ _ 6 _ := A3.to' (n := 5) B4
  replace B4 := Bel.call B3 B4
  clear B3 A3 C20h
  go_wp2_with fail
  refine (C20m _).mono ?_
  rintro e w5 ⟨rfl, B5⟩
  have A5 : Arr _ _ 6 _ := A4.to' (n := 5) B5
  replace B5 := Bel.call B4 B5
  clear B4 A4 C20m
  have c := A5.c
  have z := A5.z
  obtain ⟨e0, e1, e2, e3, e4, e5⟩ := (A5.st6 key nonce x y u v).six
  unfold st6 at e0 e1 e2 e3 e4 e5
  go_wp2_with fail
  refine bodyPost_ret (v := .tuple #[sl key nonce x y u v, .int .i64 0]) (by simp [sl, results, Tryz.results53, go_sem, e0, e1, e2, e3, e4, e5]) rfl ⟨rfl, Bel.st6 B5 (Nat.le_refl _) key nonce x y u v⟩
/-- The two blocks of a key and a nonce. -/
def hK (key : ByteArray) : Nat := bN (encS key (tN 0))
def mK (key nonce : ByteArray) : Nat := bN (encS key (nonce ++ n1))
/-- What is wrong with a key and a nonce. -/
def rfg (key nonce : ByteArray) : Int := if isK key = true then (if nonce.size = 12 then 0 else 10) else 13
theorem rfg_is (key nonce : ByteArray) : rfs key (nonce ++ n1) = rfg key nonce := by
  unfold rfs rfg
  have : (nonce ++ n1).size = 16 ↔ nonce.size = 12 := by rw [app_size]; show nonce.size + 4 = 16 ↔ _; omega
  by_cases h : nonce.size = 12
  · rw [if_pos h, if_pos (this.2 h)]
  · rw [if_neg h, if_neg (fun e => h (this.1 e))]
theorem rfg_0 {key nonce : ByteArray} (h : rfg key nonce = 0) : Key key ∧ nonce.size = 12 := by
  unfold rfg at h
  by_cases h1 : isK key = true
  · rw [if_pos h1] at h
    by_cases h2 : nonce.size = 12
    · exact ⟨(isK_iff key).1 h1, h2⟩
    · rw [if_neg h2] at h; omega
  · rw [if_neg h1] at h; omega
def slV (key nonce : ByteArray) : Value := if rfg key nonce = 0 then sl key nonce (hi (hK key)) (lo (hK key)) (hi (mK key nonce)) (lo (mK key nonce)) else sl ⟨#[]⟩ ⟨#[]⟩ 0 0 0 0
theorem sealerOf_any (key nonce : ByteArray) (hn : nonce.size ≤ 1000000) (w : World) :
    Calls Tryz.prog 53 #[.string key, .string nonce] w fun e w' => e = .returned (.tuple #[slV key nonce, .int .i64 (rfg key nonce)]) ∧ Below w.heap.size w w' := by
  unfold slV
  have C := fun W => encrypt_any key (nonce ++ n1) W
  rw [rfg_is] at C
  by_cases h : rfg key nonce = 0
  · rw [if_pos h, h]
    rw [h, if_pos rfl] at C
    have hk := (rfg_0 h).1
    refine sealerOf_yes key nonce _ (tN 0) (encS key (tN 0)) _ _ _ _ hn w C (fun W => ?_) (fun W => ?_) (fun W => gblockOf_any _ W) (fun W => gblockOf_any _ W)
    · have := gtext_any 0 W
      have e : gB 0 = gk 0 0 := by simp [gB, hi, lo]
      rwa [e] at this
    · have := encrypt_any key (tN 0) W
      have e : rfs key (tN 0) = 0 := by
        unfold rfs
        rw [if_pos ((isK_iff key).2 hk), if_pos (tN_size 0)]
      rwa [e, if_pos rfl] at this
  · rw [if_neg h]
    exact sealerOf_no key nonce _ _ h hn w C
end Go.Proofs.YtjaljnfijhfkcaaGreatDoor
