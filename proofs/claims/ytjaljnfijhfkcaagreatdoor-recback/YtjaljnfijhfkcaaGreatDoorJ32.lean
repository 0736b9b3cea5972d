/- Texts joined: G12, G13, Q3. -/
import Derived.Test.YtjaljnfijhfkcaaGreatDoorJ31
/- Hash, Seal and Open of the program. -/
set_option linter.all false
set_option maxRecDepth 100000
namespace Go.Proofs.YtjaljnfijhfkcaaGreatDoor
open Go.RowKit Go.Sort Lin
/-- What Hash tells. -/
def hsS (h a s : ByteArray) : ByteArray := if h.size = 16 then tN (hF (bN h) (hBl a s)) else ⟨#[]⟩
def hsE (h : ByteArray) : Int := if h.size = 16 then 0 else 10
set_option maxHeartbeats 1000000 in
theorem gSeal_no (key nonce ad p k0 n0 : ByteArray) (x y u v r : Int) (hr : ¬ r = 0) (w : World)
    (C27 : ∀ W, Calls Tryz.prog 53 #[.string key, .string nonce] W fun e w' => e = .returned (.tuple #[sl k0 n0 x y u v, .int .i64 r]) ∧ Below W.heap.size W w') :
    Calls Tryz.prog 34 #[.string key, .string nonce, .string ad, .string p] w fun e w' => e = .returned (.tuple #[.string ⟨#[]⟩, .int .i64 r]) ∧ Below w.heap.size w w' := by
  unfold sl at *
  go_enter Tryz.func34, Tryz.ntmps34
  go_wp2_with fail
  refine (C27 _).mono ?_
  rintro e w1 ⟨rfl, B1⟩
  clear C27
  go_wp2_with fail
  refine bodyPost_ret (v := .tuple #[.string ⟨#[]⟩, .int .i64 r]) (by simp [results, Tryz.results34, go_sem]) rfl ⟨rfl, Bel.al B1 _⟩
set_option maxHeartbeats 1000000 in
theorem gSeal_yes (key nonce ad p c g : ByteArray) (x y u v : Int) (t : Value) (hp : p.size ≤ 65536) (hc : c.size ≤ 65536) (hg : g.size = 16) (w : World)
    (C27 : ∀ W, Calls Tryz.prog 53 #[.string key, .string nonce] W fun e w' => e = .returned (.tuple #[sl key nonce x y u v, .int .i64 0]) ∧ Below W.heap.size W w')
    (C28 : ∀ W, Calls Tryz.prog 54 #[sl key nonce x y u v, .string p] W fun e w' => e = .returned (.string c) ∧ Below W.heap.size W w')
    (C29 : ∀ W, Calls Tryz.prog 55 #[sl key nonce x y u v, .string ad, .string c] W fun e w' => e = .returned t ∧ Below W.heap.size W w')
    (C22 : ∀ W, Calls Tryz.prog 56 #[t] W fun e w' => e = .returned (.string g) ∧ Below W.heap.size W w') :
    Calls Tryz.prog 34 #[.string key, .string nonce, .string ad, .string p] w fun e w' => e = .returned (.tuple #[.string (c ++ g), .int .i64 0]) ∧ Below w.heap.size w w' := by
  have p1 : ¬ (65536 : Int) < (p.size : Int) := by omega
  have c1 : (c.size : Int) ≤ 65536 := by omega
  have g1 : (g.size : Int) = 16 := by omega
  clear hp hc hg
  unfold sl at *
  go_enter Tryz.func34, Tryz.ntmps34
  go_wp2_with fail
  refine (C27 _).mono ?_
  rintro e w1 ⟨rfl, B1⟩
  clear C27
  have A0 : Arr _ _ 6 _ := (Arr.new w1 _ 107 _ rfl _ 6 (s6_at key nonce x y u v))
  go_wp2_with fail
  replace B1 := Bel.al B1 (.cells #[.string key, .string nonce, .int .u64 x, .int .u64 y, .int .u64 u, .int .u64 v] 107)
  generalize w1.alloc (.cells #[.string key, .string nonce, .int .u64 x, .int .u64 y, .int .u64 u, .int .u64 v] 107) = w2 at *
  generalize w1.heap.size = b at *
  refine (C28 _).mono ?_
  rintro e w3 ⟨rfl, B3⟩
  have A3 : Arr _ _ 6 _ := A0.to' (n := 5) B3
  replace B3 := Bel.call B1 B3
  clear B1 A0 C28
  obtain ⟨e0, e1, e2, e3, e4, e5⟩ := A3.six
  go_wp2_with fail
  refine (C29 _).mono ?_
  rintro e w4 ⟨rfl, B4⟩
  replace B4 := Bel.call B3 B4
  clear B3 A3 C29 e0 e1 e2 e3 e4 e5
  go_wp2_with fail
  refine (C22 _).mono ?_
  rintro e w5 ⟨rfl, B5⟩
  replace B5 := Bel.call B4 B5
  clear B4 C22
  go_wp2_with fail
  refine bodyPost_ret (v := .tuple #[.string (c ++ g), .int .i64 0]) (by simp [results, Tryz.results34, go_sem]) rfl ⟨rfl, B5⟩
/-- A tag, as a number. -/
def tgN (key nonce ad c : ByteArray) : Nat := hF (hK key) (hBl ad c) ^^^ mK key nonce
theorem tgN_lt (key nonce ad c : ByteArray) : tgN key nonce ad c < 2 ^ 128 := x128 (hF_lt (bN_lt _) _) (bN_lt _)
/-- What is sealed. -/
def seS (key nonce ad p : ByteArray) : ByteArray := crS key nonce p ++ tN (tgN key nonce ad (crS key nonce p))
def seR (key nonce ad p : ByteArray) : ByteArray := if rfg key nonce = 0 then seS key nonce ad p else ⟨#[]⟩
theorem gSeal_any (key nonce ad p : ByteArray) (hn : nonce.size ≤ 1000000) (ha : ad.size ≤ 1000000) (hp : p.size ≤ 65536) (w : World) :
    Calls Tryz.prog 34 #[.string key, .string nonce, .string ad, .string p] w fun e w' => e = .returned (.tuple #[.string (seR key nonce ad p), .int .i64 (rfg key nonce)]) ∧ Below w.heap.size w w' := by
  have C27 := fun W => sealerOf_any key nonce hn W
  unfold slV at C27
  unfold seR
  by_cases h : rfg key nonce = 0
  · obtain ⟨hk, h12⟩ := rfg_0 h
    rw [if_pos h, h] at C27 ⊢
    have cs := crS_size key nonce p
    exact gSeal_yes key nonce ad p (crS key nonce p) _ _ _ _ _ _ hp (by omega) (tN_size _) w C27 (fun W => crossed_any key nonce p _ _ _ _ hk h12 hp W) (fun W => tag_any key nonce ad _ ha (by omega) (bN_lt _) (bN_lt _) W) (fun W => gtext_any _ W)
  · rw [if_neg h] at C27 ⊢
    exact gSeal_no key nonce ad p _ _ _ _ _ _ _ h w C27
end Go.Proofs.YtjaljnfijhfkcaaGreatDoor
/- Open of the program. -/
set_option linter.all false
set_option maxRecDepth 100000
namespace Go.Proofs.YtjaljnfijhfkcaaGreatDoor
open Go.RowKit Go.Sort Lin
set_option maxHeartbeats 1000000 in
theorem gOpen_no (key nonce ad s k0 n0 : ByteArray) (x y u v r : Int) (hr : ¬ r = 0) (w : World)
    (C27 : ∀ W, Calls Tryz.prog 53 #[.string key, .string nonce] W fun e w' => e = .returned (.tuple #[sl k0 n0 x y u v, .int .i64 r]) ∧ Below W.heap.size W w') :
    Calls Tryz.prog 48 #[.string key, .string nonce, .string ad, .string s] w fun e w' => e = .returned (.tuple #[.string ⟨#[]⟩, .int .i64 r]) ∧ Below w.heap.size w w' := by
  unfold sl at *
  go_enter Tryz.func48, Tryz.ntmps48
  go_wp2_with fail
  refine (C27 _).mono ?_
  rintro e w1 ⟨rfl, B1⟩
  clear C27
  go_wp2_with fail
  refine bodyPost_ret (v := .tuple #[.string ⟨#[]⟩, .int .i64 r]) (by simp [results, Tryz.results48, go_sem]) rfl ⟨rfl, Bel.al B1 _⟩
set_option maxHeartbeats 1000000 in
theorem gOpen_short (key nonce ad s k0 n0 : ByteArray) (x y u v : Int) (hs : s.size < 16) (w : World)
    (C27 : ∀ W, Calls Tryz.prog 53 #[.string key, .string nonce] W fun e w' => e = .returned (.tuple #[sl k0 n0 x y u v, .int .i64 0]) ∧ Below W.heap.size W w') :
    Calls Tryz.prog 48 #[.string key, .string nonce, .string ad, .string s] w fun e w' => e = .returned (.tuple #[.string ⟨#[]⟩, .int .i64 11]) ∧ Below w.heap.size w w' := by
  have s1 : (s.size : Int) < 16 := by omega
  clear hs
  unfold sl at *
  go_enter Tryz.func48, Tryz.ntmps48
  go_wp2_with fail
  refine (C27 _).mono ?_
  rintro e w1 ⟨rfl, B1⟩
  clear C27
  go_wp2_with fail
  refine bodyPost_ret (v := .tuple #[.string ⟨#[]⟩, .int .i64 11]) (by simp [results, Tryz.results48, go_sem]) rfl ⟨rfl, Bel.al B1 _⟩
set_option maxHeartbeats 1000000 in
theorem gOpen_core (key nonce ad s c g p : ByteArray) (x y u v a b d f : Int) (ok : Bool) (n : Nat) (hn : s.size = n + 16) (hs : n ≤ 65536) (hc : s.extract 0 n = c) (hg : s.extract n s.size = g) (w : World)
    (C27 : ∀ W, Calls Tryz.prog 53 #[.string key, .string nonce] W fun e w' => e = .returned (.tuple #[sl key nonce x y u v, .int .i64 0]) ∧ Below W.heap.size W w')
    (C20 : ∀ W, Calls Tryz.prog 70 #[.string g] W fun e w' => e = .returned (gk a b) ∧ Below W.heap.size W w')
    (C29 : ∀ W, Calls Tryz.prog 55 #[sl key nonce x y u v, .string ad, .string c] W fun e w' => e = .returned (gk d f) ∧ Below W.heap.size W w')
    (C33 : ∀ W, Calls Tryz.prog 71 #[gk d f, gk a b] W fun e w' => e = .returned (.bool ok) ∧ Below W.heap.size W w')
    (C28 : ∀ W, Calls Tryz.prog 54 #[sl key nonce x y u v, .string c] W fun e w' => e = .returned (.string p) ∧ Below W.heap.size W w') :
    Calls Tryz.prog 48 #[.string key, .string nonce, .string ad, .string s] w fun e w' => e = .returned (if ok = true then .tuple #[.string p, .int .i64 0] else .tuple #[.string ⟨#[]⟩, .int .i64 17]) ∧ Below w.heap.size w w' := by
  have s0 : (s.size : Int) - 16 = (n : Int) := by omega
  have s1 : ¬ (s.size : Int) < 16 := by omega
  have s3 : ¬ (65552 : Int) < (s.size : Int) := by omega
  have s4 : (n : Int) ≤ (s.size : Int) := by omega
  have s5 : n ≤ s.size := by omega
  have s2 : (0 : Int) ≤ (n : Int) := by omega
  have hnot : ∀ (x : Bool) (w : World), (Op.unary .not (.bool x)).run Tryz.prog w = .ok (.bool (!x)) w := fun _ _ => rfl
  have HN : Hid (s.size = n + 16) := hn
  have HC : Hid (s.extract 0 n = c) := hc
  have HG : Hid (s.extract n s.size = g) := hg
  clear hs hn hc hg
  unfold sl gk at *
  go_enter Tryz.func48, Tryz.ntmps48
  go_wp2_with fail
  refine (C27 _).mono ?_
  rintro e w1 ⟨rfl, B1⟩
  clear C27
  have A0 : Arr _ _ 6 _ := (Arr.new w1 _ 107 _ rfl _ 6 (s6_at key nonce x y u v))
  go_wp2_with fail
  replace B1 := Bel.al B1 (.cells #[.string key, .string nonce, .int .u64 x, .int .u64 y, .int .u64 u, .int .u64 v] 107)
  generalize w1.alloc (.cells #[.string key, .string nonce, .int .u64 x, .int .u64 y, .int .u64 u, .int .u64 v] 107) = w2 at *
  generalize w1.heap.size = q at *
  rw [← HG.out] at C20
  rw [← HC.out] at C29 C28
  apply wp_region_alloc_tail 7 (by kernel_rfl) (by kernel_rfl) (by kernel_rfl) (.cells #[.int .u64 0, .int .u64 0] 105) _ rfl (fun _ _ => by simp [go_sem])
  · intro U hU
    simp only [List.take_succ_cons, List.take_zero]
    repeat (go_big_quiet_step (first | (go_at_call 70; exact Calls.regrown_of (C20 _))))
    exact wpQuiet_nil rfl
  intro u1 w3 hb1 hb2
  simp only [List.drop_succ_cons, List.drop_zero, Act.put, List.setIfInBounds_toArray, List.set_cons_succ, List.set_cons_zero]
  have A1 : Arr _ _ 6 _ := A0.to' (n := 5) hb1
  have A2 : Arr _ _ 6 _ := (A1.al' (n := 5) (.cells #[.int .u64 0, .int .u64 0] 105)).to' (n := 5) hb2
  have T2 := (Arr.new u1 #[.int .u64 0, .int .u64 0] 105 _ rfl _ 2 (g2_at 0 0)).to' hb2
  have B2 := Bel.call (Bel.al (Bel.call B1 hb1) (.cells #[.int .u64 0, .int .u64 0] 105)) hb2
  have lq : q < u1.heap.size := A1.lt
  have lw := (Bel.call B1 hb1).size
  clear A0 A1 B1 hb1 hb2 C20
  generalize u1.heap.size = t at *
  have c0 := T2.c 0 (by omega)
  have c1 := T2.c 1 (by omega)
  have z0 := T2.z 0 (by omega)
  have z1 := T2.z 1 (by omega)
  go_wp2_with fail
  have A3 : Arr (st2 w3 t a b) q 6 (s6 key nonce x y u v) := A2.st2o (by omega) a b
  have T3 := T2.st2 a b
  have B3 := Bel.st2 B2 lw a b
  unfold st2 at A3 T3 B3
  clear A2 T2 B2 c0 c1 z0 z1
  generalize (w3.setCell ⟨t, 0, none⟩ (.int .u64 a)).setCell ⟨t, 1, none⟩ (.int .u64 b) = w4 at *
  obtain ⟨e0, e1, e2, e3, e4, e5⟩ := A3.six
  have r0 := fun ds os => cell_regrown e0 ds os
  have r1 := fun ds os => cell_regrown e1 ds os
  have r2 := fun ds os => cell_regrown e2 ds os
  have r3 := fun ds os => cell_regrown e3 ds os
  have r4 := fun ds os => cell_regrown e4 ds os
  have r5 := fun ds os => cell_regrown e5 ds os
  have r6 := fun ds os => cell_regrown T3.h ds os
  have r7 := fun ds os => cell_regrown T3.l ds os
  clear e0 e1 e2 e3 e4 e5
  refine wp_region_quiet_below (by kernel_rfl) (by kernel_rfl) ?_
  repeat (go_big_quiet_step (first | (go_at_call 55; exact Calls.regrown_of (C29 _)) | (go_at_call 71; exact Calls.regrown_of (C33 _))))
  refine wpQuiet_nil ?_
  intro w5 hw'
  obtain ⟨⟨dq, osq⟩, hw''⟩ := hw'
  have hb := below_of hw''
  clear hw'' r0 r1 r2 r3 r4 r5 r6 r7 C29 C33
  have A5 : Arr _ _ 6 _ := A3.to' (n := 5) hb
  have B5 := Bel.call B3 hb
  clear A3 T3 B3 hb
  obtain ⟨e0, e1, e2, e3, e4, e5⟩ := A5.six
  cases ok with
  | false =>
    clear C28
    go_wp2_with fail
    refine bodyPost_ret (v := .tuple #[.string ⟨#[]⟩, .int .i64 17]) (by simp [results, Tryz.results48, go_sem]) rfl ⟨rfl, B5⟩
  | true =>
    go_wp2_with fail
    refine (C28 _).mono ?_
    rintro e w6 ⟨rfl, B6⟩
    replace B6 := Bel.call B5 B6
    clear C28 e0 e1 e2 e3 e4 e5 A5 B5
    go_wp2_with fail
    refine bodyPost_ret (v := .tuple #[.string p, .int .i64 0]) (by simp [results, Tryz.results48, go_sem]) rfl ⟨rfl, B6⟩
/-- What Open tells. -/
def cut1 (s : ByteArray) : ByteArray := s.extract 0 (s.size - 16)
def cut2 (s : ByteArray) : ByteArray := s.extract (s.size - 16) s.size
def opE (key nonce ad s : ByteArray) : Int := if rfg key nonce = 0 then (if s.size < 16 then 11 else if tgN key nonce ad (cut1 s) = bN (cut2 s) then 0 else 17) else rfg key nonce
def opS (key nonce ad s : ByteArray) : ByteArray := if opE key nonce ad s = 0 then crS key nonce (cut1 s) else ⟨#[]⟩
theorem gOpen_any (key nonce ad s : ByteArray) (hn : nonce.size ≤ 1000000) (ha : ad.size ≤ 1000000) (hs : s.size ≤ 65552) (w : World) :
    Calls Tryz.prog 48 #[.string key, .string nonce, .string ad, .string s] w fun e w' => e = .returned (.tuple #[.string (opS key nonce ad s), .int .i64 (opE key nonce ad s)]) ∧ Below w.heap.size w w' := by
  have C27 := fun W => sealerOf_any key nonce hn W
  unfold slV at C27
  unfold opS
  by_cases h : rfg key nonce = 0
  · obtain ⟨hk, h12⟩ := rfg_0 h
    rw [if_pos h, h] at C27
    by_cases h16 : s.size < 16
    · have e : opE key nonce ad s = 11 := by unfold opE; rw [if_pos h, if_pos h16]
      rw [e, if_neg (by decide)]
      exact gOpen_short key nonce ad s _ _ _ _ _ _ h16 w C27
    · have cs : (cut1 s).size = s.size - 16 := by unfold cut1; rw [ByteArray.size_extract]; omega
      have := gOpen_core key nonce ad s (cut1 s) (cut2 s) (crS key nonce (cut1 s)) _ _ _ _ _ _ _ _ _ (s.size - 16) (by omega) (by omega) rfl rfl w C27 (fun W => gblockOf_any _ W) (fun W => tag_any key nonce ad _ ha (by omega) (bN_lt _) (bN_lt _) W) (fun W => is_any (tgN_lt key nonce ad (cut1 s)) (bN_lt (cut2 s)) W) (fun W => crossed_any key nonce _ _ _ _ _ hk h12 (by omega) W)
      by_cases ht : tgN key nonce ad (cut1 s) = bN (cut2 s)
      · have e : opE key nonce ad s = 0 := by unfold opE; rw [if_pos h, if_neg h16, if_pos ht]
        rw [e, if_pos rfl]
        rw [decide_eq_true ht, if_pos rfl] at this
        exact this
      · have e : opE key nonce ad s = 17 := by unfold opE; rw [if_pos h, if_neg h16, if_neg ht]
        rw [e, if_neg (by decide)]
        rw [decide_eq_false ht, if_neg (by decide)] at this
        exact this
  · have e : opE key nonce ad s = rfg key nonce := by unfold opE; rw [if_neg h]
    rw [if_neg h] at C27
    rw [e, if_neg h]
    exact gOpen_no key nonce ad s _ _ _ _ _ _ _ h w C27
end Go.Proofs.YtjaljnfijhfkcaaGreatDoor
/- The reference: texts filled up; how many bits a text has. -/
set_option linter.all false
set_option maxRecDepth 100000
namespace Go.Proofs.YtjaljnfijhfkcaaGreatDoor
open Go.RowKit Go.Sort Lin
/-- k bytes 0. -/
def zrs (k : Nat) : ByteArray := mkS (List.replicate k 0)
theorem zrs_size (k : Nat) : (zrs k).size = k := by unfold zrs; rw [mkS_size]; simp
theorem zrs_1 : (⟨#[0]⟩ : ByteArray) = zrs 1 := by
  apply ba_ext
  rw [zrs, mkS_list]
  rfl
theorem zrs_succ (k : Nat) : zrs k ++ ⟨#[0]⟩ = zrs (k + 1) := by
  apply ba_ext
  rw [ap_list, zrs, mkS_list, zrs, mkS_list, List.replicate_succ', List.map_append]
  rfl
theorem zrs_0 (s : ByteArray) : s ++ zrs 0 = s := by
  apply ba_ext
  rw [ap_list, zrs, mkS_list]
  simp
/-- A text filled up to whole blocks. -/
def fil (s : ByteArray) : ByteArray := s ++ zrs ((16 - s.size % 16) % 16)
theorem fil_size (s : ByteArray) : (fil s).size = 16 * ((s.size + 15) / 16) := by unfold fil; rw [app_size, zrs_size]; omega
def szV : Value → Nat
  | .string t => (16 - t.size % 16) % 16
  | _ => 0
set_option maxHeartbeats 1000000 in
theorem filled_any (s : ByteArray) (hs : s.size ≤ 1000000) (w : World) : Calls Tryz.prog 68 #[.string s] w fun e w' => e = .returned (.string (fil s)) ∧ w' = w := by
  go_enter Tryz.func68, Tryz.ntmps68
  go_wp2_with fail
  go_loopw [0] (fun v wr => ∃ k : Nat, k ≤ (16 - s.size % 16) % 16 ∧ v = .string (s ++ zrs k) ∧ wr = w) (fun v _ => szV v)
  case atStart => exact ⟨0, by omega, by rw [zrs_0], rfl⟩
  case round =>
    obtain ⟨k, hk, rfl, rfl⟩ := hrel
    have sz : (s ++ zrs k).size = s.size + k := by rw [app_size, zrs_size]
    by_cases hlt : k < (16 - s.size % 16) % 16
    · have m1 : ¬ ((s ++ zrs k).size : Int) % 16 = 0 := by rw [sz]; omega
      have m2 : ((s ++ zrs k).size : Int) ≤ 2000000 := by rw [sz]; omega
      have HZ : Hid ((s ++ zrs k) ++ ⟨#[0]⟩ = s ++ zrs (k + 1)) := by
        show _ = _
        rw [ap_assoc, zrs_succ]
      have HM : Hid (szV (.string (s ++ zrs (k + 1))) < szV (.string (s ++ zrs k))) := by
        show (16 - (s ++ zrs (k + 1)).size % 16) % 16 < (16 - (s ++ zrs k).size % 16) % 16
        rw [app_size, app_size, zrs_size, zrs_size]
        omega
      clear sz
      generalize s ++ zrs k = t at *
      go_wp2_with fail
      exact ⟨⟨k + 1, by omega, by rw [HZ.out], trivial⟩, by rw [HZ.out]; exact HM.out⟩
    · have e : k = (16 - s.size % 16) % 16 := by omega
      have m1 : ((s ++ zrs k).size : Int) % 16 = 0 := by rw [sz]; omega
      have HT : Hid (s ++ zrs k = fil s) := by show _ = _; unfold fil; rw [← e]
      clear sz
      generalize s ++ zrs k = t at *
      go_wp2_with fail
      go_ret
      exact ⟨by rw [← HT.out]; rfl, rfl⟩
/-- 8 bytes that say how many bits n bytes have. -/
def btL (n : Nat) : List Int := (List.range 8).map fun i => ((8 * n / 2 ^ (56 - 8 * i) % 256 : Nat) : Int)
def btS (n : Nat) : ByteArray := mkS (btL n)
theorem btS_size (n : Nat) : (btS n).size = 8 := by unfold btS btL; rw [mkS_size]; simp
def b8 (n k j : Nat) : Value := .int .u8 (if j < k then ((8 * n / 2 ^ (56 - 8 * j) % 256 : Nat) : Int) else 0)
set_option maxHeartbeats 1000000 in
theorem bits_any (n : Nat) (hn : n ≤ 1000000) (w : World) : Calls Tryz.prog 90 #[.int .i64 (n : Int)] w fun e w' => e = .returned (.string (btS n)) ∧ Below w.heap.size w w' := by
  obtain ⟨i0, hi, hi0, hi1, hi2⟩ := info_parts Tryz.info5
  have mk := run_make (P := Tryz.prog) w 50 5 i0 (.int .u8 0) Tryz.underlying50 hi hi0 .i64 .i64 8 8 (by omega) (by omega) (by rw [hi2]; omega) (by omega)
  rw [hi1] at mk
  have A0 : Arr (w.alloc (.cells (madeCells #[.int .u8 0] 8) 5)) w.heap.size 8 (b8 n 0) := Arr.new _ _ 5 _ rfl _ _ (fun j hj => by unfold b8; rw [if_neg (by omega)]; exact made_at _ j hj)
  have B0 : Below w.heap.size w (w.alloc (.cells (madeCells #[.int .u8 0] 8) 5)) := Bel.al (Below.refl _ w) _
  have n0 : (0 : Int) ≤ (n : Int) := by omega
  have n1 : (n : Int) ≤ 1000000 := by omega
  go_enter Tryz.func90, Tryz.ntmps90
  go_wp2_with fail
  clear mk hi hi0 hi1 hi2
  go_loopw [4] (fun z wr => ∃ k : Nat, k ≤ 8 ∧ z = .int .i64 k ∧ Below w.heap.size w wr ∧ Arr wr w.heap.size 8 (b8 n k)) (fun z _ => 8 - (intOf z).toNat)
  case atStart => exact ⟨0, by omega, rfl, B0, A0⟩
  case round =>
    clear A0 B0
    obtain ⟨k, hk, rfl, hB, A⟩ := hrel
    by_cases hlt : k < 8
    · have k0 : (0 : Int) ≤ (k : Int) := by omega
      have k1 : (k : Int) < 8 := by omega
      obtain ⟨d, hd⟩ : ∃ d, 56 - 8 * k = d := ⟨_, rfl⟩
      have d1 : (56 : Int) - 8 * (k : Int) = (d : Int) := by omega
      have d2 : (0 : Int) ≤ (d : Int) := by omega
      have d3 : (d : Int) ≤ 56 := by omega
      have HV : Hid ((n : Int) * 8 / 2 ^ d % 256 = ((8 * n / 2 ^ (56 - 8 * k) % 256 : Nat) : Int)) := by
        show _ = _
        rw [hd, Nat.mul_comm 8 n]
        simp
      have c0 := A.c k hlt
      have z0 := A.z k hlt
      clear hd
      go_wp2_with fail
      refine ⟨⟨k + 1, by omega, by go_num, Bel.st hB (by omega) _, (A.set k hlt _).congr fun j hj => ?_⟩, by simp [intOf]; omega⟩
      unfold b8
      by_cases e : j = k
      · subst e; rw [if_pos rfl, if_pos (by omega), HV.out]
      · rw [if_neg e]
        by_cases e2 : j < k
        · rw [if_pos e2, if_pos (by omega)]
        · rw [if_neg e2, if_neg (by omega)]
    · have e : k = 8 := by omega
      rw [show ((k : Nat) : Int) = 8 by omega]
      subst e
      have cv := convC wr w.heap.size 8 8 (btL n) (by simp [btL]) (by
        intro j q hq
        rw [Addr.add_mid, Nat.zero_add]
        have hj : j < 8 := by have := (List.getElem?_eq_some_iff.1 hq).1; simpa [btL] using this
        rw [A.c j hj, ← hq]
        unfold b8
        rw [if_pos hj]
        simp [btL, hj])
      rw [show mkS (btL n) = btS n from rfl] at cv
      obtain ⟨T, hT⟩ : ∃ T, btS n = T := ⟨_, rfl⟩
      rw [hT] at cv
      have HT : Hid (btS n = T) := hT
      clear A hT
      go_wp2_with fail
      go_ret
      exact ⟨by rw [HT.out]; rfl, hB⟩
end Go.Proofs.YtjaljnfijhfkcaaGreatDoor
