/- Texts joined: QS, FT. -/
import Derived.LaidMore
import Derived.Test.YtmkfnfencllfnaaDoorJ5
import Derived.Test.YtmkfnfencllfnaaDoorJ8
import Derived.Test.YtmkfnfencllfnaaDoorJ7
import Derived.Test.YtmkfnfencllfnaaDoorJ2
/- Keys of both sides as functions; NegoKeys. -/
set_option linter.all false
set_option maxRecDepth 100000
namespace Go.Proofs.YtmkfnfencllfnaaDoor
open Go.RowKit Go.Shelf Go.Sort
/-- A key's context. -/
def kC (n : Int) (k : UInt8) : ByteArray := (⟨#[0, 0]⟩ ++ tw n) ++ ⟨#[k]⟩
/-- Keys' error, and its texts. -/
def kE (st : Int) (x : ByteArray) (n : Int) : Int := if ksI n = 0 then 13 else if st ≠ 3 then 14 else xE x exN (kC n 0) (ksI n)
def kS (st : Int) (x : ByteArray) (n : Int) (k : UInt8) : ByteArray := if kE st x n = 0 then xS x exN (kC n k) (ksI n) else ⟨#[]⟩
theorem kS_no {st : Int} {x : ByteArray} {n : Int} (h : kE st x n ≠ 0) (k : UInt8) : kS st x n k = ⟨#[]⟩ := by unfold kS; rw [if_neg h]
theorem kS_yes {st : Int} {x : ByteArray} {n : Int} (h : kE st x n = 0) (k : UInt8) : kS st x n k = xS x exN (kC n k) (ksI n) := by unfold kS; rw [if_pos h]
theorem ks_or {n : Int} (h : ksI n ≠ 0) : (n = 15 ∧ ksI n = 32) ∨ (n = 17 ∧ ksI n = 64) := by
  unfold ksI at h ⊢
  by_cases a : n = 15
  · exact .inl ⟨a, by rw [if_pos a]⟩
  · by_cases b : n = 17
    · exact .inr ⟨b, by rw [if_neg a, if_pos b]⟩
    · rw [if_neg a, if_neg b] at h; exact absurd rfl h
theorem pr_two {n : Int} (h : ksI n ≠ 0) : prS [0, n] = ⟨#[0, 0]⟩ ++ tw n := by
  rcases ks_or h with ⟨rfl, _⟩ | ⟨rfl, _⟩ <;> decide
theorem tw_two {n : Int} (h : ksI n ≠ 0) : (tw n).size ≤ 1000 ∧ (⟨#[0, 0]⟩ ++ tw n).size ≤ 1000 ∧ (∀ k, (kC n k).size ≤ 100000) := by
  have e : (tw n).size = 2 := by rcases ks_or h with ⟨rfl, _⟩ | ⟨rfl, _⟩ <;> decide
  have f : ((⟨#[0, 0]⟩ : ByteArray) ++ tw n).size = 4 := by rw [ByteArray.size_append, e]; rfl
  refine ⟨by omega, by omega, fun k => ?_⟩
  unfold kC
  rw [ByteArray.size_append, f]
  show 4 + 1 ≤ 100000
  decide
theorem xE_ctx (x l c d : ByteArray) (n : Int) : xE x l c n = xE x l d n := by
  unfold xE lbE infE
  simp only [ofS_size]
theorem xS_len (x l c : ByteArray) (n : Int) (h : xE x l c n = 0) : ((xS x l c n).size : Int) = n := by
  unfold xE at h
  unfold xS
  by_cases h1 : x.size = 32
  case neg => rw [if_neg h1] at h; exact absurd h (by decide)
  rw [if_pos h1] at h ⊢
  by_cases h2 : lbE l (ofS ⟨#[]⟩) 32 = 0
  case neg => rw [if_neg h2] at h; exact absurd h h2
  rw [if_pos h2] at h ⊢
  unfold lbE at h
  unfold lbS
  by_cases h3 : infE ⟨#[101, 120, 112, 111, 114, 116, 101, 114]⟩ (ofS c) n = 0
  case neg => rw [if_neg h3] at h; exact absurd h h3
  rw [if_pos h3] at h ⊢
  unfold exE at h
  unfold exS
  by_cases h4 : n < 0 ∨ 8160 < n
  case pos => rw [if_pos h4] at h; exact absurd h (by decide)
  rw [if_neg h4, expS_size _ _ _ (by omega)]
  omega
theorem exN_size : exN.size ≤ maxLen := by decide
theorem pKeys_any (L : List Value) (F : Nat → Value) (hL : Cells L 44 F) (st : Int) (h0 : F 0 = .int .i64 st) (x0 x1 x2 x3 : ByteArray) (hx : ∀ j, j < 4 → F (33 + j) = sx x0 x1 x2 x3 j) (hs : x3.size ≤ maxLen) (n : Int) (w : World) (hT : Tab w) :
    Calls Tryd.prog 4 #[.agg L.toArray, .int .i64 n] w fun e w' => e = .returned (.tuple #[.string (kS st x3 n 0), .string (kS st x3 n 1), .int .i64 (kE st x3 n)]) ∧ Below w.heap.size w w' := by
  by_cases hk : ksI n = 0
  · have e : kE st x3 n = 13 := if_pos hk
    rw [kS_no (by rw [e]; decide), kS_no (by rw [e]; decide), e]
    exact pKeys_z L F hL n hk w
  obtain ⟨t1, t2, t3⟩ := tw_two hk
  by_cases h3 : st = 3
  case neg =>
    have e : kE st x3 n = 14 := by unfold kE; rw [if_neg hk, if_pos h3]
    rw [kS_no (by rw [e]; decide), kS_no (by rw [e]; decide), e]
    exact pKeys_err2 L F hL n (ksI n) _ _ ⟨#[]⟩ 14 rfl hk (pr_two hk) t2 rfl (by decide) w (fun W _ => tExp_no L F hL st h0 h3 _ _ _ W)
  subst h3
  have e : kE 3 x3 n = xE x3 exN (kC n 0) (ksI n) := by unfold kE; rw [if_neg hk, if_neg (by simp)]
  have C := fun (k : UInt8) (W : World) (hW : Below w.heap.size w W) => tExp_yes L F hL h0 x0 x1 x2 x3 hx exN (kC n k) (ksI n) _ _ W (fun V hV => exp_any x0 x1 x2 x3 exN (kC n k) (ksI n) hs exN_size (t3 k) V ((hT.bel hW).bel hV))
  have C' : ∀ (k : UInt8) (W : World), Below w.heap.size w W → Calls Tryd.prog 9 #[.agg L.toArray, .string exN, .string (kC n k), .int .i64 (ksI n)] W fun e w' => e = .returned (.tuple #[.string (xS x3 exN (kC n k) (ksI n)), .int .i64 (kE 3 x3 n)]) ∧ Below W.heap.size W w' := fun k W hW => by
    have := C k W hW
    rw [xE_ctx x3 exN (kC n k) (kC n 0), ← e] at this
    exact this
  by_cases hE : kE 3 x3 n = 0
  · rw [kS_yes hE, kS_yes hE]
    rw [hE] at C' ⊢
    exact pKeys_ok L F hL n (ksI n) _ _ _ _ _ rfl hk (pr_two hk) t2 rfl rfl w (C' 0) (C' 1)
  · rw [kS_no hE, kS_no hE]
    exact pKeys_err2 L F hL n (ksI n) _ _ _ _ rfl hk (pr_two hk) t2 rfl hE w (C' 0)
theorem xKeys_any (L : List Value) (F : Nat → Value) (hL : Cells L 44 F) (st : Int) (h0 : F 0 = .int .i64 st) (x0 x1 x2 x3 : ByteArray) (hx : ∀ j, j < 4 → F (33 + j) = sx x0 x1 x2 x3 j) (hs : x3.size ≤ maxLen) (n : Int) (w : World) :
    Calls Tryd.prog 5 #[.agg L.toArray, .int .i64 n] w fun e w' => e = .returned (.tuple #[.string (kS st x3 n 0), .string (kS st x3 n 1), .int .i64 (kE st x3 n)]) ∧ Below w.heap.size w w' := by
  by_cases hk : ksI n = 0
  · have e : kE st x3 n = 13 := if_pos hk
    rw [kS_no (by rw [e]; decide), kS_no (by rw [e]; decide), e]
    exact xKeys_z L F hL n hk w
  obtain ⟨t1, t2, t3⟩ := tw_two hk
  have n0 : 0 ≤ n ∧ n ≤ 65535 := by rcases ks_or hk with ⟨q, _⟩ | ⟨q, _⟩ <;> omega
  by_cases h3 : st = 3
  case neg =>
    have e : kE st x3 n = 14 := by unfold kE; rw [if_neg hk, if_pos h3]
    rw [kS_no (by rw [e]; decide), kS_no (by rw [e]; decide), e]
    exact xKeys_err L F hL n (ksI n) n0.1 n0.2 _ ⟨#[]⟩ 14 rfl hk rfl t1 (by decide) w (fun W _ => xExp_no L F hL st h0 h3 _ _ _ W)
  subst h3
  have e : kE 3 x3 n = xE x3 exN (kC n 0) (ksI n) := by unfold kE; rw [if_neg hk, if_neg (by simp)]
  have C := fun (k : UInt8) (W : World) => xExp_yes L F hL h0 x0 x1 x2 x3 hx exN (kC n k) (ksI n) _ _ W (fun V hV => rexp_any x0 x1 x2 x3 exN (kC n k) (ksI n) hs exN_size (t3 k) V)
  have C' : ∀ (k : UInt8) (W : World), Below w.heap.size w W → Calls Tryd.prog 12 #[.agg L.toArray, .string exN, .string (kC n k), .int .i64 (ksI n)] W fun e w' => e = .returned (.tuple #[.string (xS x3 exN (kC n k) (ksI n)), .int .i64 (kE 3 x3 n)]) ∧ Below W.heap.size W w' := fun k W hW => by
    have := C k W
    rw [xE_ctx x3 exN (kC n k) (kC n 0), ← e] at this
    exact this
  by_cases hE : kE 3 x3 n = 0
  · rw [kS_yes hE, kS_yes hE]
    rw [hE] at C' ⊢
    exact xKeys_ok L F hL n (ksI n) n0.1 n0.2 _ _ _ rfl hk rfl t1 w (C' 0) (C' 1)
  · rw [kS_no hE, kS_no hE]
    exact xKeys_err L F hL n (ksI n) n0.1 n0.2 _ _ _ rfl hk rfl t1 hE w (C' 0)
set_option maxHeartbeats 8000000 in
theorem NegoKeys_core (L : List Value) (F : Nat → Value) (hL : Cells L 44 F) (st : Int) (h0 : F 0 = .int .i64 st) (n sz E : Int) (S0 S1 : ByteArray) (w : World) (hE : E = 0 → st = 3 ∧ (S0.size : Int) = sz ∧ (S1.size : Int) = sz)
    (CK : ∀ W, Calls Tryd.prog 6 #[.int .i64 n] W fun e w' => e = .returned (.int .i64 sz) ∧ w' = W)
    (CR : ∀ W, Calls Tryd.prog 7 #[.int .i64 n] W fun e w' => e = .returned (.int .i64 sz) ∧ w' = W)
    (C1 : ∀ W, Below w.heap.size w W → Calls Tryd.prog 4 #[.agg L.toArray, .int .i64 n] W fun e w' => e = .returned (.tuple #[.string S0, .string S1, .int .i64 E]) ∧ Below W.heap.size W w')
    (C2 : ∀ W, Below w.heap.size w W → Calls Tryd.prog 5 #[.agg L.toArray, .int .i64 n] W fun e w' => e = .returned (.tuple #[.string S0, .string S1, .int .i64 E]) ∧ Below W.heap.size W w')
    (CW : ∀ W, Calls Tryd.prog 8 #[] W fun e w' => e = .returned (.bool true) ∧ Below W.heap.size W w') :
    Calls Tryd.prog 3 #[.agg L.toArray, .int .i64 n] w fun e w' => e = .returned (.bool true) ∧ Below w.heap.size w w' := by
  have A : Arr _ _ 44 _ := hL.new w 35 _ rfl
  have hB : Below w.heap.size w (w.alloc (.cells L.toArray 35)) := by go_grown
  go_enter Tryd.func3, Tryd.ntmps3
  go_upto_region 1 with (fail)
  generalize w.alloc (.cells L.toArray 35) = W0 at *
  go_wp2_with (refine hL.wld tT44 A 0 (by decide) (fun j _ => by rw [Nat.zero_add]) (by rfl) (.tmp 2) (by rfl) (by rfl) ?_)
  refine (C1 _ hB).mono ?_
  rintro e w1 ⟨rfl, b1⟩
  have B1 := Bel.call hB b1
  have A1 : Arr _ _ (43 + 1) _ := A.to' (n := 43) b1
  clear A hB b1 C1
  go_wp2_with (refine hL.wld tT44 A1 0 (by decide) (fun j _ => by rw [Nat.zero_add]) (by rfl) (.tmp 2) (by rfl) (by rfl) ?_)
  refine (C2 _ B1).mono ?_
  rintro e w2 ⟨rfl, b2⟩
  have B2 := Bel.call B1 b2
  have A2 : Arr _ _ (43 + 1) _ := A1.to' (n := 43) b2
  have c0 := A2.cv 0 (by decide) _ h0
  clear A1 B1 b2 C2 A2 hL
  go_wp2_with fail
  refine (CK _).mono ?_
  rintro e w3 ⟨rfl, rfl⟩
  go_wp2_with fail
  refine (CR _).mono ?_
  rintro e w4 ⟨rfl, rfl⟩
  clear CR
  by_cases hz : E = 0
  case neg =>
    have q : (E != 0) = true := by simpa using hz
    clear CK hE hz c0
    go_wp2_with fail
    refine (CW _).mono ?_
    rintro e w5 ⟨rfl, b5⟩
    have B5 := Bel.call B2 b5
    clear CW b5 B2
    go_wp2_with fail
    go_ret
    exact ⟨rfl, B5⟩
  obtain ⟨rfl, h1, h2⟩ := hE hz
  subst hz
  clear hE
  go_wp2_with fail
  refine (CK _).mono ?_
  rintro e w5 ⟨rfl, rfl⟩
  clear CK
  go_wp2_with fail
  refine (CW _).mono ?_
  rintro e w6 ⟨rfl, b5⟩
  have B5 := Bel.call B2 b5
  clear CW b5 B2 c0
  go_wp2_with fail
  go_ret
  exact ⟨rfl, B5⟩
theorem NegoKeys_any (L : List Value) (F : Nat → Value) (hL : Cells L 44 F) (st : Int) (h0 : F 0 = .int .i64 st) (x0 x1 x2 x3 : ByteArray) (hx : ∀ j, j < 4 → F (33 + j) = sx x0 x1 x2 x3 j) (hs : x3.size ≤ maxLen) (n : Int) (w : World) (hT : Tab w) :
    Calls Tryd.prog 3 #[.agg L.toArray, .int .i64 n] w fun e w' => e = .returned (.bool true) ∧ Below w.heap.size w w' := by
  refine NegoKeys_core L F hL st h0 n (ksI n) (kE st x3 n) (kS st x3 n 0) (kS st x3 n 1) w (fun hE => ?_) (fun W => pKeySize_any n W) (fun W => nKeySize_any n W)
    (fun W hW => pKeys_any L F hL st h0 x0 x1 x2 x3 hx hs n W (hT.bel hW)) (fun W _ => xKeys_any L F hL st h0 x0 x1 x2 x3 hx hs n W) (fun W => awake_any tA tN tK W)
  rw [kS_yes hE, kS_yes hE]
  unfold kE at hE
  by_cases hk : ksI n = 0
  · rw [if_pos hk] at hE; exact absurd hE (by decide)
  rw [if_neg hk] at hE
  by_cases h3 : st = 3
  case neg => rw [if_pos h3] at hE; exact absurd hE (by decide)
  rw [if_neg (by simpa using h3)] at hE
  exact ⟨h3, xS_len _ _ _ _ hE, xS_len _ _ _ _ ((xE_ctx _ _ _ _ _).trans hE)⟩
end Go.Proofs.YtmkfnfencllfnaaDoor
/- An end of a connection among the arguments, opened. -/
set_option linter.all false
set_option maxRecDepth 100000
namespace Go.Proofs.YtmkfnfencllfnaaDoor
open Go.ChangeShapes Go.WideShapes Go.ChangeAt Go.RowKit
theorem cTls44 : Tryd.prog.cellsOf 35 = 44 := by kernel_rfl
theorem cSec4 : Tryd.prog.cellsOf 30 = 4 := by kernel_rfl
theorem getD_of {l : List Value} {i : Nat} {v : Value} (h : l[i]? = some v) : l.getD i undef = v := by rw [List.getD_eq_getElem?_getD, h]; rfl
theorem one_in {l : List Value} {a i : Nat} {v : Value} (hi : i < 4) (h : ((((l.drop a).take 4).drop i).take 1) = [v]) : l[a + i]? = some v := by
  have e := take_one h
  rw [List.getElem?_take, if_pos hi, List.getElem?_drop] at e
  exact e
theorem open_tls {H : Type} {enc : TypeId × Value → H} {W : World} {base : Nat} {v : Value} {d : DataW H} {p : List MemPlace}
    (hv : Value.okWide Tryd.prog W .any base 35 v) (h : DataW.Trod enc Tryd.prog W 0 (fun _ => true) true 35 v d p) :
    ∃ (L : List Value) (F : Nat → Value) (st : Int) (x0 x1 x2 x3 : ByteArray), v = .agg L.toArray ∧ Cells L 44 F ∧ F 0 = .int .i64 st ∧ (∀ j, j < 4 → F (33 + j) = sx x0 x1 x2 x3 j) ∧ x3.size ≤ maxLen := by
  obtain ⟨cs, rfl, hsz, _⟩ : ∃ cs, v = .agg cs ∧ cs.size = Tryd.prog.cellsOf 35 ∧ Row.okWide Tryd.prog W .any base 35 cs := by
    simpa [Value.okWide, Tryd.underlying35] using hv
  rw [cTls44] at hsz
  obtain ⟨l⟩ := cs
  have hl : l.length = 44 := hsz
  obtain ⟨fuel, hf⟩ := h
  obtain ⟨xs, n, _, _, _, hlen, hf⟩ := DataW.trod_struct Tryd.underlying35 hf
  have h20 : xs.length = 20 := hlen
  have f0 : DataW.trod enc Tryd.prog W 0 (fun _ => true) true n 3 ((l.drop 0).take (Tryd.prog.cellsOf 3)) = xs[0]? := hf 0 _ rfl
  have f16 : DataW.trod enc Tryd.prog W 0 (fun _ => true) true n 30 ((l.drop 33).take (Tryd.prog.cellsOf 30)) = xs[16]? := hf 16 _ rfl
  clear hf
  obtain ⟨y0, hy0⟩ : ∃ y, xs[0]? = some y := ⟨_, List.getElem?_eq_getElem (by omega)⟩
  obtain ⟨y16, hy16⟩ : ∃ y, xs[16]? = some y := ⟨_, List.getElem?_eq_getElem (by omega)⟩
  rw [hy0] at f0
  rw [hy16] at f16
  rw [cI1] at f0
  rw [cSec4] at f16
  obtain ⟨k, e0, _, _⟩ := DataW.trod_int Tryd.underlying3 f0
  obtain ⟨zs, m, _, _, _, hz, g⟩ := DataW.trod_struct Tryd.underlying30 f16
  have hz4 : zs.length = 4 := hz
  have get : ∀ i (hi : i < 4), ∃ y, zs[i]? = some y := fun i hi => ⟨_, List.getElem?_eq_getElem (by omega)⟩
  have g0 : DataW.trod enc Tryd.prog W 0 (fun _ => true) true m 9 ((((l.drop 33).take 4).drop 0).take (Tryd.prog.cellsOf 9)) = zs[0]? := g 0 _ rfl
  have g1 : DataW.trod enc Tryd.prog W 0 (fun _ => true) true m 9 ((((l.drop 33).take 4).drop 1).take (Tryd.prog.cellsOf 9)) = zs[1]? := g 1 _ rfl
  have g2 : DataW.trod enc Tryd.prog W 0 (fun _ => true) true m 9 ((((l.drop 33).take 4).drop 2).take (Tryd.prog.cellsOf 9)) = zs[2]? := g 2 _ rfl
  have g3 : DataW.trod enc Tryd.prog W 0 (fun _ => true) true m 9 ((((l.drop 33).take 4).drop 3).take (Tryd.prog.cellsOf 9)) = zs[3]? := g 3 _ rfl
  obtain ⟨u0, q0⟩ := get 0 (by decide)
  obtain ⟨u1, q1⟩ := get 1 (by decide)
  obtain ⟨u2, q2⟩ := get 2 (by decide)
  obtain ⟨u3, q3⟩ := get 3 (by decide)
  rw [q0, cS1] at g0
  rw [q1, cS1] at g1
  rw [q2, cS1] at g2
  rw [q3, cS1] at g3
  obtain ⟨s0, t0, _, _⟩ := DataW.trod_string Tryd.underlying9 g0
  obtain ⟨s1, t1, _, _⟩ := DataW.trod_string Tryd.underlying9 g1
  obtain ⟨s2, t2, _, _⟩ := DataW.trod_string Tryd.underlying9 g2
  obtain ⟨s3, t3, _, z3⟩ := DataW.trod_string Tryd.underlying9 g3
  refine ⟨l, fun j => l.getD j undef, k, s0, s1, s2, s3, rfl, ⟨hl, fun j hj => ?_⟩, getD_of (take_one e0), fun j hj => ?_, z3⟩
  · rw [List.getD_eq_getElem?_getD, List.getElem?_eq_getElem (by omega)]; rfl
  · match j, hj with
    | 0, _ => exact getD_of (one_in (a := 33) (i := 0) (by decide) t0)
    | 1, _ => exact getD_of (one_in (a := 33) (i := 1) (by decide) t1)
    | 2, _ => exact getD_of (one_in (a := 33) (i := 2) (by decide) t2)
    | 3, _ => exact getD_of (one_in (a := 33) (i := 3) (by decide) t3)
end Go.Proofs.YtmkfnfencllfnaaDoor
