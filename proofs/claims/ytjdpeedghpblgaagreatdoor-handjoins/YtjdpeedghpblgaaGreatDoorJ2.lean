/- Texts joined: M4, N1, N2, N3, N4, T1, T2, T0, P1, M1, P2, HU, Y8, HA. -/
import Derived.WalkKit
import Derived.WalkSpells
import Derived.WalkLawsBesides
import Derived.Handy
import Derived.Laws.Externs
import Derived.Laws.BitsAllLaws
import Derived.Lib.QuietBelow
import Derived.BigQuiet
import Derived.Deep.MidRow
import Derived.Deep.Cut
import Derived.Deep.RegionLaw
import Derived.Laws.BytesString
import Derived.Laws.MakeOwn
import Derived.Laws.MathBits
import Derived.Deep.WholeRow
import Derived.ProofKit
import Derived.OpenShut
import Derived.ShutString
import Derived.ChangeOld
import Derived.Below
import Derived.Laws.IdiomArrays
import Derived.Laws.IdiomStrings
import Derived.Shelf.Strings.Builder1
import Derived.Shelf.Strings.Builder2
import Derived.Shelf.Strings.Trim
import Derived.Shelf.Small.Strs
import Derived.Shelf.Strings.Search1
import Derived.Shelf.Strings.Prefix
import Derived.Shelf.Bits.Mul64
import Derived.Shelf.Strings.Repeat
import Derived.RangeFuncFrom
import Derived.RangeFuncNested
import Derived.RangeFuncBound
import Derived.RangeFuncCalls
import Derived.RangeFuncLeaves
import Derived.RangeFuncBox
import Derived.Shelf.Abstract
import Derived.Shelf.RegionOpen
import Derived.OwnWalkIn
import Derived.TacticsInMore
import Derived.LoopNIn
import Derived.LoopIn
import Derived.Recover
import Derived.Laws.Pointers
import Derived.Test.YtjdpeedghpblgaaGreatDoorB3
/- Messages of a handshake as bytes: vectors, what is taken off, and that a body tells its message. -/
set_option linter.all false
set_option maxRecDepth 100000
namespace Go.Proofs.YtjdpeedghpblgaaGreatDoor
open Go.RowKit
abbrev nS : ByteArray := ⟨#[]⟩
theorem nS_size {s : ByteArray} (h : s.size = 0) : s = nS := ba_ext (by have := List.eq_nil_of_length_eq_zero (l := s.data.toList) (by rw [len_list]; exact h); rw [this])
theorem ap_nS (a : ByteArray) : a ++ nS = a := ba_ext (by rw [ap_list]; exact List.append_nil _)
theorem ap_size (a b : ByteArray) : (a ++ b).size = a.size + b.size := ByteArray.size_append
theorem ex_left (a b : ByteArray) : (a ++ b).extract 0 a.size = a := by
  apply ba_ext
  rw [ext_list, ap_list, List.drop_zero, Nat.sub_zero, List.take_left' (len_list a)]
theorem ex_right (a b : ByteArray) : (a ++ b).extract a.size (a ++ b).size = b := by
  apply ba_ext
  rw [ext_list, ap_list, List.drop_left' (len_list a), List.take_of_length_le (by rw [len_list, ap_size]; omega)]
theorem ex_mid (a b c : ByteArray) : (a ++ (b ++ c)).extract a.size (a.size + b.size) = b := by
  apply ba_ext
  rw [ext_list, ap_list, List.drop_left' (len_list a), ap_list, List.take_left' (by rw [len_list]; omega)]
theorem bt_left (a b : ByteArray) (j : Nat) (h : j < a.size) : bt (a ++ b) j = bt a j := by
  unfold bt
  congr 2
  rw [← Array.getElem?_toList, ← Array.getElem?_toList, ap_list, List.getElem?_append_left (by rw [len_list]; exact h)]
/-- The digits of a number, k bytes, the high one first. -/
def dgL : Nat → Int → List Int
  | 0, _ => []
  | k + 1, n => dgL k (n / 256) ++ [n % 256]
theorem dgL_len (k : Nat) (n : Int) : (dgL k n).length = k := by
  induction k generalizing n with
  | zero => rfl
  | succ k ih => rw [dgL, List.length_append, ih]; rfl
theorem dgL_bd (k : Nat) (n : Int) : ∀ x ∈ dgL k n, 0 ≤ x ∧ x < 256 := by
  induction k generalizing n with
  | zero => intro x hx; exact absurd hx (List.not_mem_nil)
  | succ k ih =>
    intro x hx
    rw [dgL] at hx
    rcases List.mem_append.1 hx with h | h
    · exact ih _ x h
    · rw [List.mem_singleton.1 h]; omega
/-- A vector of k bytes' length. -/
def vec (k : Nat) (s : ByteArray) : ByteArray := mkS (dgL k s.size) ++ s
theorem vec_size (k : Nat) (s : ByteArray) : (vec k s).size = k + s.size := by unfold vec; rw [ap_size, mkS_size, dgL_len]
/-- The number of the first k bytes. -/
def nB (s : ByteArray) : Nat → Int
  | 0 => 0
  | k + 1 => nB s k * 256 + bt s k
theorem nB_bd (s : ByteArray) (k : Nat) : 0 ≤ nB s k ∧ nB s k < 256 ^ k := by
  induction k with
  | zero => simp [nB]
  | succ k ih => have := bt_bd s k; rw [nB, Int.pow_succ]; omega
theorem nB_vec (k : Nat) (hk : k ≤ 3) (x r : ByteArray) (h : x.size < 256 ^ k) : nB (vec k x ++ r) k = x.size := by
  have b : ∀ j n, (dgL k x.size)[j]? = some n → bt (vec k x ++ r) j = n := fun j n hj => by
    have hlt : j < k := by
      have := (List.getElem?_eq_some_iff.1 hj).1
      rw [dgL_len] at this; exact this
    have bd := dgL_bd k x.size n (List.mem_of_getElem? hj)
    rw [bt_left _ _ _ (by rw [vec_size]; omega)]
    unfold vec
    rw [bt_left _ _ _ (by rw [mkS_size, dgL_len]; exact hlt)]
    exact mkS_bt _ j n hj bd.1 bd.2
  have c : k = 0 ∨ k = 1 ∨ k = 2 ∨ k = 3 := by omega
  rcases c with rfl | rfl | rfl | rfl
  · have : x.size = 0 := by simpa using h
    rw [this]; rfl
  · have b0 := b 0 _ rfl
    have : x.size < 256 := by simpa using h
    simp only [nB]; rw [b0]; omega
  · have b0 := b 0 _ rfl
    have b1 := b 1 _ rfl
    have : x.size < 65536 := by simpa using h
    simp only [nB]; rw [b0, b1]; omega
  · have b0 := b 0 _ rfl
    have b1 := b 1 _ rfl
    have b2 := b 2 _ rfl
    have : x.size < 16777216 := by simpa using h
    simp only [nB]; rw [b0, b1, b2]; omega
/-- What is taken off: a vector, and what stands behind. -/
def tkB (k : Nat) (s : ByteArray) : Bool := decide (k ≤ s.size ∧ nB s k ≤ (s.size : Int) - k)
def tkA (k : Nat) (s : ByteArray) : ByteArray := if tkB k s = true then s.extract k (k + (nB s k).toNat) else nS
def tkR (k : Nat) (s : ByteArray) : ByteArray := if tkB k s = true then s.extract (k + (nB s k).toNat) s.size else nS
theorem tk_vec (k : Nat) (hk : k ≤ 3) (x r : ByteArray) (h : x.size < 256 ^ k) : tkA k (vec k x ++ r) = x ∧ tkR k (vec k x ++ r) = r := by
  have e := nB_vec k hk x r h
  have z : (vec k x ++ r).size = k + x.size + r.size := by rw [ap_size, vec_size]
  have t : tkB k (vec k x ++ r) = true := by unfold tkB; rw [e, z]; simp; omega
  have m : (mkS (dgL k x.size)).size = k := by rw [mkS_size, dgL_len]
  constructor
  · unfold tkA
    rw [if_pos t, e, Int.toNat_natCast]
    unfold vec
    rw [ap_assoc]
    have := ex_mid (mkS (dgL k x.size)) x r
    rw [m] at this; exact this
  · unfold tkR
    rw [if_pos t, e, Int.toNat_natCast]
    have := ex_right (vec k x) r
    rw [vec_size] at this; exact this
theorem tk_vec0 (k : Nat) (hk : k ≤ 3) (x : ByteArray) (h : x.size < 256 ^ k) : tkA k (vec k x) = x := by
  have := (tk_vec k hk x nS h).1
  rw [ap_nS] at this; exact this
/-- Without the first n bytes; the first n bytes. -/
def bh (s : ByteArray) (n : Nat) : ByteArray := if s.size < n then nS else s.extract n s.size
def fs (s : ByteArray) (n : Nat) : ByteArray := if s.size < n then nS else s.extract 0 n
theorem bh_app (a b : ByteArray) (n : Nat) (h : a.size = n) : bh (a ++ b) n = b := by
  unfold bh
  rw [if_neg (by rw [ap_size]; omega), ← h, ex_right]
theorem fs_app (a b : ByteArray) (n : Nat) (h : a.size = n) : fs (a ++ b) n = a := by
  unfold fs
  rw [if_neg (by rw [ap_size]; omega), ← h, ex_left]
/-- The last n bytes. -/
def lsN (s : ByteArray) (n : Nat) : ByteArray := if n ≤ s.size then s.extract (s.size - n) s.size else nS
theorem lsN_app (a b : ByteArray) (n : Nat) (h : b.size = n) : lsN (a ++ b) n = b := by
  unfold lsN
  rw [if_pos (by rw [ap_size]; omega), show (a ++ b).size - n = a.size by rw [ap_size]; omega, ex_right]
/-- Bodies. -/
def alS (a : ByteArray) : ByteArray := ⟨#[0, 16]⟩ ++ vec 2 (vec 2 (vec 1 a))
def alO (s : ByteArray) : ByteArray := tkA 1 (tkA 2 (tkA 2 (bh s 2)))
theorem al_back (a r : ByteArray) (h : a.size ≤ 32) : alO (alS a ++ r) = a := by
  unfold alO alS
  rw [ap_assoc, bh_app ⟨#[0, 16]⟩ _ 2 rfl, (tk_vec 2 (by omega) _ r (by rw [vec_size, vec_size]; omega)).1, tk_vec0 2 (by omega) _ (by rw [vec_size]; omega), tk_vec0 1 (by omega) _ (by omega)]
theorem al_size (a : ByteArray) : (alS a).size = 7 + a.size := by
  unfold alS
  rw [ap_size, vec_size, vec_size, vec_size]
  show 2 + _ = _
  omega
def clX (nm al sh : ByteArray) : ByteArray := ⟨#[0, 0]⟩ ++ (vec 2 (vec 2 (⟨#[0]⟩ ++ vec 2 nm)) ++ (⟨#[0, 10, 0, 4, 0, 2, 0, 29, 0, 13, 0, 4, 0, 2, 4, 3]⟩ ++ (alS al ++ (⟨#[0, 43, 0, 3, 2, 3, 4, 0, 51, 0, 38, 0, 36, 0, 29, 0, 32]⟩ ++ sh))))
def clS (rn ss nm al sh : ByteArray) : ByteArray := ⟨#[3, 3]⟩ ++ (rn ++ (vec 1 ss ++ (⟨#[0, 2, 19, 1, 1, 0]⟩ ++ vec 2 (clX nm al sh))))
theorem clX_size (nm al sh : ByteArray) : (clX nm al sh).size = 49 + nm.size + al.size + sh.size := by
  unfold clX
  simp only [ap_size, vec_size, al_size]
  show 2 + (2 + (2 + (1 + (2 + nm.size))) + (16 + (7 + al.size + (17 + sh.size)))) = _
  omega
theorem cl_back (rn ss nm al sh : ByteArray) (h1 : rn.size = 32) (h2 : ss.size ≤ 32) (h3 : nm.size ≤ 64) (h4 : al.size ≤ 32) (h5 : sh.size = 32) (s : ByteArray) (hs : s = clS rn ss nm al sh) :
    fs (bh s 2) 32 = rn ∧ tkA 1 (bh s 34) = ss ∧ tkA 2 (bh (tkR 1 (bh s 34)) 6) = clX nm al sh ∧ tkA 2 (bh (tkA 2 (tkA 2 (bh (clX nm al sh) 2))) 1) = nm ∧ alO (bh (tkR 2 (bh (clX nm al sh) 2)) 16) = al ∧ lsN (clX nm al sh) 32 = sh := by
  subst hs
  have zx := clX_size nm al sh
  have e2 : bh (clS rn ss nm al sh) 2 = rn ++ (vec 1 ss ++ (⟨#[0, 2, 19, 1, 1, 0]⟩ ++ vec 2 (clX nm al sh))) := by unfold clS; exact bh_app _ _ 2 rfl
  have e34 : bh (clS rn ss nm al sh) 34 = vec 1 ss ++ (⟨#[0, 2, 19, 1, 1, 0]⟩ ++ vec 2 (clX nm al sh)) := by
    unfold clS
    rw [← ap_assoc]
    exact bh_app _ _ 34 (by rw [ap_size, h1]; rfl)
  have t1 := tk_vec 1 (by omega) ss (⟨#[0, 2, 19, 1, 1, 0]⟩ ++ vec 2 (clX nm al sh)) (by omega)
  have x2 : bh (clX nm al sh) 2 = vec 2 (vec 2 (⟨#[0]⟩ ++ vec 2 nm)) ++ (⟨#[0, 10, 0, 4, 0, 2, 0, 29, 0, 13, 0, 4, 0, 2, 4, 3]⟩ ++ (alS al ++ (⟨#[0, 43, 0, 3, 2, 3, 4, 0, 51, 0, 38, 0, 36, 0, 29, 0, 32]⟩ ++ sh))) := by unfold clX; exact bh_app _ _ 2 rfl
  have z3 : (⟨#[0]⟩ ++ vec 2 nm : ByteArray).size = 3 + nm.size := by rw [ap_size, vec_size]; show 1 + _ = _; omega
  have t2 := tk_vec 2 (by omega) (vec 2 (⟨#[0]⟩ ++ vec 2 nm)) (⟨#[0, 10, 0, 4, 0, 2, 0, 29, 0, 13, 0, 4, 0, 2, 4, 3]⟩ ++ (alS al ++ (⟨#[0, 43, 0, 3, 2, 3, 4, 0, 51, 0, 38, 0, 36, 0, 29, 0, 32]⟩ ++ sh))) (by rw [vec_size, z3]; omega)
  refine ⟨?_, ?_, ?_, ?_, ?_, ?_⟩
  · rw [e2]; exact fs_app _ _ 32 h1
  · rw [e34, t1.1]
  · rw [e34, t1.2, bh_app ⟨#[0, 2, 19, 1, 1, 0]⟩ _ 6 rfl, tk_vec0 2 (by omega) _ (by rw [zx]; omega)]
  · rw [x2, t2.1, tk_vec0 2 (by omega) _ (by rw [z3]; omega), bh_app ⟨#[0]⟩ _ 1 rfl, tk_vec0 2 (by omega) _ (by omega)]
  · rw [x2, t2.2, bh_app _ _ 16 rfl, al_back _ _ h4]
  · unfold clX
    rw [← ap_assoc, ← ap_assoc, ← ap_assoc, ← ap_assoc]
    exact lsN_app _ _ 32 h5
def svS (rn ss sh : ByteArray) : ByteArray := ⟨#[3, 3]⟩ ++ (rn ++ (vec 1 ss ++ (⟨#[19, 1, 0]⟩ ++ vec 2 (⟨#[0, 43, 0, 2, 3, 4, 0, 51, 0, 36, 0, 29, 0, 32]⟩ ++ sh))))
theorem sv_back (rn ss sh : ByteArray) (h1 : rn.size = 32) (h2 : ss.size ≤ 32) (h5 : sh.size = 32) (s : ByteArray) (hs : s = svS rn ss sh) :
    fs (bh s 2) 32 = rn ∧ tkA 1 (bh s 34) = ss ∧ lsN s 32 = sh := by
  subst hs
  refine ⟨?_, ?_, ?_⟩
  · unfold svS
    rw [bh_app ⟨#[3, 3]⟩ _ 2 rfl]; exact fs_app _ _ 32 h1
  · unfold svS
    rw [← ap_assoc, bh_app _ _ 34 (by rw [ap_size, h1]; rfl)]
    exact (tk_vec 1 (by omega) ss _ (by omega)).1
  · unfold svS vec
    rw [← ap_assoc, ← ap_assoc, ← ap_assoc, ← ap_assoc, ← ap_assoc]
    exact lsN_app _ _ 32 h5
def exS (al : ByteArray) : ByteArray := vec 2 (alS al)
theorem ex_back (al : ByteArray) (h : al.size ≤ 32) : alO (tkA 2 (exS al)) = al := by
  unfold exS
  rw [tk_vec0 2 (by omega) _ (by rw [al_size]; omega)]
  have := al_back al nS h
  rw [ap_nS] at this; exact this
/-- Certificates one behind the other. -/
def cfS : List ByteArray → ByteArray
  | [] => nS
  | c :: l => vec 3 c ++ (⟨#[0, 0]⟩ ++ cfS l)
def cfT (l : List ByteArray) : ByteArray := l.foldl (fun x c => x ++ vec 3 c ++ ⟨#[0, 0]⟩) nS
theorem cfT_from (l : List ByteArray) : ∀ x : ByteArray, l.foldl (fun x c => x ++ vec 3 c ++ ⟨#[0, 0]⟩) x = x ++ cfS l := by
  induction l with
  | nil => intro x; exact (ap_nS x).symm
  | cons c l ih => intro x; rw [List.foldl_cons, ih, cfS, ap_assoc, ap_assoc]
theorem cfT_is (l : List ByteArray) : cfT l = cfS l := by unfold cfT; rw [cfT_from, ap_nil]
theorem cf_step (c : ByteArray) (l : List ByteArray) (h : c.size ≤ 2048) : tkA 3 (cfS (c :: l)) = c ∧ bh (tkR 3 (cfS (c :: l))) 2 = cfS l := by
  have t := tk_vec 3 (by omega) c (⟨#[0, 0]⟩ ++ cfS l) (by omega)
  rw [cfS, t.1, t.2]
  exact ⟨rfl, bh_app ⟨#[0, 0]⟩ _ 2 rfl⟩
theorem cfS_size (l : List ByteArray) (h : ∀ c ∈ l, c.size ≤ 2048) : (cfS l).size ≤ 2053 * l.length ∧ (l ≠ [] → (cfS l).size ≠ 0) := by
  induction l with
  | nil => exact ⟨Nat.le_refl _, fun c => absurd rfl c⟩
  | cons c l ih =>
    have h1 := h c (List.mem_cons_self ..)
    have h2 := ih (fun x hx => h x (List.mem_cons_of_mem _ hx))
    have z : (⟨#[0, 0]⟩ : ByteArray).size = 2 := rfl
    rw [cfS, ap_size, ap_size, vec_size, List.length_cons, z]
    omega
def ctS (l : List ByteArray) : ByteArray := ⟨#[0]⟩ ++ vec 3 (cfS l)
theorem ct_back (l : List ByteArray) (h : ∀ c ∈ l, c.size ≤ 2048) (hl : l.length ≤ 4) : tkA 3 (bh (ctS l) 1) = cfS l := by
  unfold ctS
  have := (cfS_size l h).1
  rw [bh_app ⟨#[0]⟩ _ 1 rfl, tk_vec0 3 (by omega) _ (by omega)]
def vfS (sg : ByteArray) : ByteArray := ⟨#[4, 3]⟩ ++ vec 2 sg
theorem vf_back (sg : ByteArray) (h : sg.size ≤ 1000) : tkA 2 (bh (vfS sg) 2) = sg := by
  unfold vfS
  rw [bh_app ⟨#[4, 3]⟩ _ 2 rfl, tk_vec0 2 (by omega) _ (by omega)]
end Go.Proofs.YtjdpeedghpblgaaGreatDoor
/- Numbers of 256 bits: their parts, windows and bytes (carried from the layer of numbers). -/
set_option linter.all false
set_option maxRecDepth 100000
namespace Go.Proofs.YtjdpeedghpblgaaGreatDoor
open Go.RowKit Go.Sort
/-- The k-th part of 64 bits of a whole number. -/
def lim (N : Int) (k : Nat) : Int := N / (18446744073709551616 ^ k) % 18446744073709551616

theorem lim0 (N : Int) : lim N 0 = N % 18446744073709551616 := by simp [lim]
theorem lim1 (N : Int) : lim N 1 = N / 18446744073709551616 % 18446744073709551616 := by simp [lim]
theorem lim2 (N : Int) : lim N 2 = N / 340282366920938463463374607431768211456 % 18446744073709551616 := by simp [lim]
theorem lim3 (N : Int) : lim N 3 = N / 6277101735386680763835789423207666416102355444464034512896 % 18446744073709551616 := by simp [lim]
theorem lim_nn (N : Int) (k : Nat) : 0 ≤ lim N k := by unfold lim; omega
theorem lim_lt (N : Int) (k : Nat) : lim N k < 18446744073709551616 := by unfold lim; omega
/-- The number of four parts. -/
def V4 (a b c d : Int) : Int := a + 18446744073709551616 * b + 340282366920938463463374607431768211456 * c + 6277101735386680763835789423207666416102355444464034512896 * d

theorem lims_of {N s0 s1 s2 s3 q : Int} (h0 : 0 ≤ s0) (h0' : s0 < 18446744073709551616) (h1 : 0 ≤ s1) (h1' : s1 < 18446744073709551616) (h2 : 0 ≤ s2) (h2' : s2 < 18446744073709551616) (h3 : 0 ≤ s3) (h3' : s3 < 18446744073709551616)
    (h : N = V4 s0 s1 s2 s3 + 115792089237316195423570985008687907853269984665640564039457584007913129639936 * q) : lim N 0 = s0 ∧ lim N 1 = s1 ∧ lim N 2 = s2 ∧ lim N 3 = s3 := by
  rw [lim0, lim1, lim2, lim3]
  unfold V4 at h
  omega

theorem V4_bd {a b c d : Int} (h0 : 0 ≤ a) (h0' : a < 18446744073709551616) (h1 : 0 ≤ b) (h1' : b < 18446744073709551616) (h2 : 0 ≤ c) (h2' : c < 18446744073709551616) (h3 : 0 ≤ d) (h3' : d < 18446744073709551616) :
    0 ≤ V4 a b c d ∧ V4 a b c d < 115792089237316195423570985008687907853269984665640564039457584007913129639936 := by unfold V4; omega

/-- A number of four parts as the translation holds it. -/
abbrev nv (N : Int) : Value := .agg #[.int .u64 (lim N 0), .int .u64 (lim N 1), .int .u64 (lim N 2), .int .u64 (lim N 3)]
def top256 : Int := 115792089237316195423570985008687907853269984665640564039457584007913129639936

theorem idx24_0 (v0 v1 v2 v3 : Int) (w : World) : (Instr.index 25 (.agg #[.int .u64 v0, .int .u64 v1, .int .u64 v2, .int .u64 v3]) (.int .i64 0)).run Tryz.prog w = .ok (.int .u64 v0) w := by kernel_rfl
theorem idx24_1 (v0 v1 v2 v3 : Int) (w : World) : (Instr.index 25 (.agg #[.int .u64 v0, .int .u64 v1, .int .u64 v2, .int .u64 v3]) (.int .i64 1)).run Tryz.prog w = .ok (.int .u64 v1) w := by kernel_rfl
theorem idx24_2 (v0 v1 v2 v3 : Int) (w : World) : (Instr.index 25 (.agg #[.int .u64 v0, .int .u64 v1, .int .u64 v2, .int .u64 v3]) (.int .i64 2)).run Tryz.prog w = .ok (.int .u64 v2) w := by kernel_rfl
theorem idx24_3 (v0 v1 v2 v3 : Int) (w : World) : (Instr.index 25 (.agg #[.int .u64 v0, .int .u64 v1, .int .u64 v2, .int .u64 v3]) (.int .i64 3)).run Tryz.prog w = .ok (.int .u64 v3) w := by kernel_rfl
attribute [local go_sem] idx24_0 idx24_1 idx24_2 idx24_3
def sg (x y : Int) : Int := if x < y then -1 else if y < x then 1 else 0
def prt (N : Int) (k : Int) : Int := if 0 ≤ k ∧ k < 4 then lim N k.toNat else 0
/-- A number's 64 bits from the given one on. -/
def win (N : Int) (k : Int) : Int := if 0 ≤ k then N / 2 ^ k.toNat % 18446744073709551616 else N * 2 ^ (-k).toNat % 18446744073709551616

theorem prt_bd (N k : Int) : 0 ≤ prt N k ∧ prt N k < 18446744073709551616 := by
  unfold prt; split
  · exact ⟨lim_nn _ _, lim_lt _ _⟩
  · omega
theorem wraps_u64_64 (n : Int) (h₀ : 0 ≤ n) (h₁ : n < 2 ^ 64) : IntKind.u64.wrap n = n := by rw [IntKind.wrap_u64]; omega

theorem mul_mod_right' (p T S : Int) (hT : 0 < T) (hS : 0 < S) : p * S % (T * S) = p % T * S := by
  have e : p * S = p % T * S + T * S * (p / T) := by
    have := Int.mul_ediv_add_emod p T
    calc p * S = (T * (p / T) + p % T) * S := by rw [this]
      _ = p % T * S + T * S * (p / T) := by grind
  rw [e, Int.add_mul_emod_self_left]
  have h0 := Int.emod_nonneg p (Int.ne_of_gt hT)
  have h1 := Int.emod_lt_of_pos p hT
  exact Int.emod_eq_of_lt (Int.mul_nonneg h0 (Int.le_of_lt hS)) (Int.mul_lt_mul_of_pos_right h1 hS)

theorem pow_split (r : Nat) (h : r ≤ 64) : (2 : Int) ^ r * 2 ^ (64 - r) = 18446744073709551616 := by
  rw [← Int.pow_add]
  have : r + (64 - r) = 64 := by omega
  rw [this]; rfl

theorem or_join (p0 p1 : Int) (r : Nat) (hr : r ≤ 63) (h0 : 0 ≤ p0) (h0' : p0 < 18446744073709551616) (h1 : 0 ≤ p1) :
    bits .or .u64 (p0 / 2 ^ r) (IntKind.u64.wrap (p1 * 2 ^ (64 - r))) = p0 / 2 ^ r + p1 % 2 ^ r * 2 ^ (64 - r) := by
  have hT : (0 : Int) < 2 ^ r := Int.pow_pos (by omega)
  have hS : (0 : Int) < 2 ^ (64 - r) := Int.pow_pos (by omega)
  have hTS := pow_split r (by omega)
  have hw : IntKind.u64.wrap (p1 * 2 ^ (64 - r)) = p1 % 2 ^ r * 2 ^ (64 - r) := by
    rw [IntKind.wrap_u64, ← hTS, mul_mod_right' _ _ _ hT hS]
  rw [hw]
  have hc : ∀ a b, bits .or .u64 a b = bits .or .u64 b a := fun a b => by simp only [bits, BitVec.or_comm]
  have hm0 := Int.emod_nonneg p1 (Int.ne_of_gt hT)
  have hm1 := Int.emod_lt_of_pos p1 hT
  have hd0 : 0 ≤ p0 / 2 ^ r := Int.ediv_nonneg h0 (Int.le_of_lt hT)
  have hd1 : p0 / 2 ^ r < 2 ^ (64 - r) := Int.ediv_lt_of_lt_mul hT (by rw [Int.mul_comm, hTS]; exact h0')
  have hd2 : p0 / 2 ^ r < 2 ^ 64 := by
    have : p0 / 2 ^ r ≤ p0 := Int.ediv_le_self _ h0
    omega
  have hx0 : 0 ≤ p1 % 2 ^ r * 2 ^ (64 - r) := Int.mul_nonneg hm0 (Int.le_of_lt hS)
  have hx1 : p1 % 2 ^ r * 2 ^ (64 - r) < 2 ^ 64 := by
    have := Int.mul_lt_mul_of_pos_right hm1 hS
    rw [hTS] at this
    exact this
  rw [hc, bits_join .u64 64 (by decide) wraps_u64_64 (64 - r) _ _ hx0 (Int.mul_emod_left _ _) hx1 hd0 hd1 hd2, Int.add_comm]

theorem win_core (p0 M1 : Int) (r : Nat) (hr : r ≤ 63) (h0 : 0 ≤ p0) (h0' : p0 < 18446744073709551616) :
    (p0 + 18446744073709551616 * M1) / 2 ^ r % 18446744073709551616 = p0 / 2 ^ r + M1 % 2 ^ r * 2 ^ (64 - r) := by
  have hT : (0 : Int) < 2 ^ r := Int.pow_pos (by omega)
  have hS : (0 : Int) < 2 ^ (64 - r) := Int.pow_pos (by omega)
  have hTS := pow_split r (by omega)
  generalize (2 : Int) ^ r = T at *
  generalize (2 : Int) ^ (64 - r) = S at *
  have hm0 := Int.emod_nonneg M1 (Int.ne_of_gt hT)
  have hm1 := Int.emod_lt_of_pos M1 hT
  have hd0 : 0 ≤ p0 / T := Int.ediv_nonneg h0 (Int.le_of_lt hT)
  have hd1 : p0 / T < S := Int.ediv_lt_of_lt_mul hT (by rw [Int.mul_comm, hTS]; exact h0')
  have e1 : p0 + 18446744073709551616 * M1 = p0 + T * (S * M1) := by rw [← hTS]; grind
  have e2 : M1 = T * (M1 / T) + M1 % T := (Int.mul_ediv_add_emod M1 T).symm
  have e3 : p0 / T + S * M1 = (p0 / T + M1 % T * S) + T * S * (M1 / T) := by
    generalize M1 / T = q at *
    generalize M1 % T = m at *
    subst e2; grind
  rw [e1, Int.add_mul_ediv_left _ _ (Int.ne_of_gt hT), e3, ← hTS, Int.add_mul_emod_self_left]
  refine Int.emod_eq_of_lt (Int.add_nonneg hd0 (Int.mul_nonneg hm0 (Int.le_of_lt hS))) ?_
  have h2 : (M1 % T + 1) * S ≤ T * S := Int.mul_le_mul_of_nonneg_right (by omega) (Int.le_of_lt hS)
  have h3 : (M1 % T + 1) * S = M1 % T * S + S := by grind
  omega

theorem mod_mod_pow (M : Int) (r : Nat) (hr : r ≤ 63) : M % 18446744073709551616 % 2 ^ r = M % 2 ^ r := by
  have hTS := pow_split r (by omega)
  exact Int.emod_emod_of_dvd M ⟨2 ^ (64 - r), hTS.symm⟩

theorem div_pow_add (N : Int) (a r : Nat) : N / 2 ^ (a + r) = N / 2 ^ a / 2 ^ r := by
  rw [Int.pow_add, Int.ediv_ediv_of_nonneg (Int.le_of_lt (Int.pow_pos (by omega)))]

theorem win_eq (N k : Int) (hN : 0 ≤ N) (hN' : N < top256) :
    bits .or .u64 (prt N (k / 64) / 2 ^ (k % 64).toNat) (IntKind.u64.wrap (prt N (k / 64 + 1) * 2 ^ (64 - k % 64).toNat)) = win N k := by
  unfold top256 at hN'
  obtain ⟨r, hr⟩ : ∃ r : Nat, k % 64 = r := ⟨(k % 64).toNat, by omega⟩
  obtain ⟨q, hq⟩ : ∃ q, k / 64 = q := ⟨_, rfl⟩
  have hk : k = 64 * q + r := by omega
  have hr63 : r ≤ 63 := by omega
  have e1 : (k % 64).toNat = r := by omega
  have e2 : (64 - k % 64).toNat = 64 - r := by omega
  rw [e1, e2, hq, or_join _ _ r hr63 (prt_bd _ _).1 (prt_bd _ _).2 (prt_bd _ _).1]
  have hT : (0 : Int) < 2 ^ r := Int.pow_pos (by omega)
  by_cases c0 : q ≤ -2
  · have p0 : prt N q = 0 := by unfold prt; rw [if_neg (by omega)]
    have p1 : prt N (q + 1) = 0 := by unfold prt; rw [if_neg (by omega)]
    rw [p0, p1, Int.zero_ediv, Int.zero_emod, Int.zero_mul]
    unfold win
    rw [if_neg (by omega)]
    have e : (-k).toNat = 64 + ((-k).toNat - 64) := by omega
    rw [e, Int.pow_add, ← Int.mul_assoc, Int.mul_right_comm]
    have : (2 : Int) ^ 64 = 18446744073709551616 := rfl
    rw [this, Int.mul_emod_left]; rfl
  by_cases c1 : q = -1
  · have p0 : prt N q = 0 := by unfold prt; rw [if_neg (by omega)]
    have p1 : prt N (q + 1) = N % 18446744073709551616 := by
      unfold prt; rw [if_pos (by omega)]; subst c1; exact lim0 N
    rw [p0, p1, Int.zero_ediv, mod_mod_pow _ _ hr63]
    unfold win
    rw [if_neg (by omega)]
    have e : (-k).toNat = 64 - r := by omega
    have hS : (0 : Int) < 2 ^ (64 - r) := Int.pow_pos (by omega)
    rw [e, ← pow_split r (by omega), mul_mod_right' _ _ _ hT hS]; omega
  have hk0 : 0 ≤ k := by omega
  unfold win
  rw [if_pos hk0]
  by_cases c2 : 4 ≤ q
  · have p0 : prt N q = 0 := by unfold prt; rw [if_neg (by omega)]
    have p1 : prt N (q + 1) = 0 := by unfold prt; rw [if_neg (by omega)]
    rw [p0, p1, Int.zero_ediv, Int.zero_emod, Int.zero_mul]
    have e : k.toNat = 256 + (k.toNat - 256) := by omega
    have e256 : (2 : Int) ^ 256 = 115792089237316195423570985008687907853269984665640564039457584007913129639936 := by decide
    have z : N / 115792089237316195423570985008687907853269984665640564039457584007913129639936 = 0 := by omega
    rw [e, div_pow_add, e256, z, Int.zero_ediv]; rfl
  have hq4 : q = 0 ∨ q = 1 ∨ q = 2 ∨ q = 3 := by omega
  rcases hq4 with h | h | h | h
  · subst h
    have e : k.toNat = r := by omega
    have p0 : prt N 0 = N % 18446744073709551616 := lim0 N
    have p1 : prt N (0 + 1) = N / 18446744073709551616 % 18446744073709551616 := lim1 N
    have eM : N = N % 18446744073709551616 + 18446744073709551616 * (N / 18446744073709551616) := by omega
    rw [e, p0, p1, mod_mod_pow _ _ hr63]
    have := win_core (N % 18446744073709551616) (N / 18446744073709551616) r hr63 (by omega) (by omega)
    rw [← eM] at this
    exact this.symm
  · subst h
    have e : k.toNat = 64 + r := by omega
    have e64 : (2 : Int) ^ 64 = 18446744073709551616 := rfl
    have p0 : prt N 1 = N / 18446744073709551616 % 18446744073709551616 := lim1 N
    have p1 : prt N (1 + 1) = N / 18446744073709551616 / 18446744073709551616 % 18446744073709551616 := by
      have h : prt N (1 + 1) = lim N 2 := rfl
      rw [h, lim2]; omega
    rw [e, div_pow_add, e64, p0, p1, mod_mod_pow _ _ hr63]
    have eM : N / 18446744073709551616 = N / 18446744073709551616 % 18446744073709551616 + 18446744073709551616 * (N / 18446744073709551616 / 18446744073709551616) := by omega
    have := win_core (N / 18446744073709551616 % 18446744073709551616) (N / 18446744073709551616 / 18446744073709551616) r hr63 (by omega) (by omega)
    rw [← eM] at this
    exact this.symm
  · subst h
    have e : k.toNat = 128 + r := by omega
    have e64 : (2 : Int) ^ 128 = 340282366920938463463374607431768211456 := rfl
    have p0 : prt N 2 = N / 340282366920938463463374607431768211456 % 18446744073709551616 := lim2 N
    have p1 : prt N (2 + 1) = N / 340282366920938463463374607431768211456 / 18446744073709551616 % 18446744073709551616 := by
      have h : prt N (2 + 1) = lim N 3 := rfl
      rw [h, lim3]; omega
    rw [e, div_pow_add, e64, p0, p1, mod_mod_pow _ _ hr63]
    have eM : N / 340282366920938463463374607431768211456 = N / 340282366920938463463374607431768211456 % 18446744073709551616 + 18446744073709551616 * (N / 340282366920938463463374607431768211456 / 18446744073709551616) := by omega
    have := win_core (N / 340282366920938463463374607431768211456 % 18446744073709551616) (N / 340282366920938463463374607431768211456 / 18446744073709551616) r hr63 (by omega) (by omega)
    rw [← eM] at this
    exact this.symm
  · subst h
    have e : k.toNat = 192 + r := by omega
    have e64 : (2 : Int) ^ 192 = 6277101735386680763835789423207666416102355444464034512896 := rfl
    have p0 : prt N 3 = N / 6277101735386680763835789423207666416102355444464034512896 % 18446744073709551616 := lim3 N
    have p1 : prt N (3 + 1) = 0 := rfl
    rw [e, div_pow_add, e64, p0, p1, Int.zero_emod]
    have eM : N / 6277101735386680763835789423207666416102355444464034512896 = N / 6277101735386680763835789423207666416102355444464034512896 % 18446744073709551616 + 18446744073709551616 * 0 := by omega
    have := win_core (N / 6277101735386680763835789423207666416102355444464034512896 % 18446744073709551616) 0 r hr63 (by omega) (by omega)
    rw [← eM, Int.zero_emod] at this
    exact this.symm

theorem Arr.mk4 {w : World} {b : Nat} {f : Nat → Value} (h0 : w.cell? ⟨b, 0, none⟩ = some (f 0)) (h1 : w.cell? ⟨b, 1, none⟩ = some (f 1)) (h2 : w.cell? ⟨b, 2, none⟩ = some (f 2)) (h3 : w.cell? ⟨b, 3, none⟩ = some (f 3))
    (z0 : w.frozen? ⟨b, 0, none⟩ = false) (z1 : w.frozen? ⟨b, 1, none⟩ = false) (z2 : w.frozen? ⟨b, 2, none⟩ = false) (z3 : w.frozen? ⟨b, 3, none⟩ = false) : Arr w b 4 f := by
  intro j hj
  have h : j = 0 ∨ j = 1 ∨ j = 2 ∨ j = 3 := by omega
  rcases h with h | h | h | h <;> subst h
  · exact ⟨h0, z0⟩
  · exact ⟨h1, z1⟩
  · exact ⟨h2, z2⟩
  · exact ⟨h3, z3⟩
attribute [local go_sem] idx24_0 idx24_1 idx24_2 idx24_3
set_option maxHeartbeats 1000000 in
theorem part_in (N : Int) (k : Nat) (hk : k < 4) (w : World) :
    Calls Tryz.prog 142 #[nv N, .int .i64 k] w fun e w' => e = .returned (.int .u64 (lim N k)) ∧ Below w.heap.size w w' := by
  have h : k = 0 ∨ k = 1 ∨ k = 2 ∨ k = 3 := by omega
  rcases h with h | h | h | h
  all_goals
    subst h
    clear hk
    go_enter Tryz.func142, Tryz.ntmps142
    go_wp2
    go_returns
    exact ⟨rfl, by go_grown⟩
set_option maxHeartbeats 1000000 in
theorem part_out (N : Int) (k : Int) (hk : k < 0 ∨ 4 ≤ k) (w : World) :
    Calls Tryz.prog 142 #[nv N, .int .i64 k] w fun e w' => e = .returned (.int .u64 0) ∧ Below w.heap.size w w' := by
  rcases hk with h | h
  · go_enter Tryz.func142, Tryz.ntmps142
    go_wp2
    go_returns
    exact ⟨rfl, by go_grown⟩
  · have h' : ¬ k < 0 := by omega
    go_enter Tryz.func142, Tryz.ntmps142
    go_wp2
    go_returns
    exact ⟨rfl, by go_grown⟩
theorem part_any (N : Int) (k : Int) (w : World) :
    Calls Tryz.prog 142 #[nv N, .int .i64 k] w fun e w' => e = .returned (.int .u64 (prt N k)) ∧ Below w.heap.size w w' := by
  by_cases h : 0 ≤ k ∧ k < 4
  · have e : k = ((k.toNat : Nat) : Int) := by omega
    have := part_in N k.toNat (by omega) w
    rw [← e] at this
    unfold prt; rw [if_pos h]; exact this
  · unfold prt; rw [if_neg h]; exact part_out N k (by omega) w
theorem i64_and63 (n : Int) : bits .and .i64 n 63 = n % 64 := by
  have h63 : (BitVec.ofInt 64 63).toNat = 2 ^ 6 - 1 := by decide
  have key : (BitVec.ofInt 64 n &&& BitVec.ofInt 64 63).toNat = (n % ((2 ^ 64 : Nat) : Int)).toNat % 2 ^ 6 := by
    rw [BitVec.toNat_and, BitVec.toNat_ofInt, h63, Nat.and_two_pow_sub_one_eq_mod]
  show IntKind.i64.wrap ((BitVec.ofInt 64 n &&& BitVec.ofInt 64 63).toNat : Nat) = n % 64
  rw [key, IntKind.wrap_i64]
  omega
theorem u64_mod64 (n : Int) : IntKind.u64.wrap (n % 64) = n % 64 := by rw [IntKind.wrap_u64]; omega
theorem new4 (w : World) (a b c d : Value) (T : TypeId) (ds : Nat) (os : Array Obj) :
    (grow (redrawn (w.alloc (.cells #[a, b, c, d] T)) ds) os).cell? ⟨w.heap.size, 0, none⟩ = some a ∧
    (grow (redrawn (w.alloc (.cells #[a, b, c, d] T)) ds) os).cell? ⟨w.heap.size, 1, none⟩ = some b ∧
    (grow (redrawn (w.alloc (.cells #[a, b, c, d] T)) ds) os).cell? ⟨w.heap.size, 2, none⟩ = some c ∧
    (grow (redrawn (w.alloc (.cells #[a, b, c, d] T)) ds) os).cell? ⟨w.heap.size, 3, none⟩ = some d :=
  ⟨cell_regrown (by simp [go_sem]) _ _, cell_regrown (by simp [go_sem]) _ _, cell_regrown (by simp [go_sem]) _ _, cell_regrown (by simp [go_sem]) _ _⟩

set_option maxHeartbeats 1000000 in
theorem window_raw (N : Int) (k r : Int) (hr : r = k % 64) (hk : -9223372036854775808 ≤ k) (hk' : k ≤ 9223372036854775807) (w : World) :
    Calls Tryz.prog 138 #[nv N, .int .i64 k] w fun e w' => e = .returned (.int .u64 (bits .or .u64 (prt N (k / 64) / 2 ^ r.toNat) (IntKind.u64.wrap (prt N (k / 64 + 1) * 2 ^ (64 - r).toNat)))) ∧ Below w.heap.size w w' := by
  have a63 := i64_and63 k
  rw [← hr] at a63
  have u63 : IntKind.u64.wrap r = r := by rw [hr]; exact u64_mod64 k
  have r0 : 0 ≤ r := by omega
  have r1 : r ≤ 63 := by omega
  clear hr
  have n0 := fun ds os => (new4 w (.int .u64 (lim N 0)) (.int .u64 (lim N 1)) (.int .u64 (lim N 2)) (.int .u64 (lim N 3)) 25 ds os).1
  have n1 := fun ds os => (new4 w (.int .u64 (lim N 0)) (.int .u64 (lim N 1)) (.int .u64 (lim N 2)) (.int .u64 (lim N 3)) 25 ds os).2.1
  have n2 := fun ds os => (new4 w (.int .u64 (lim N 0)) (.int .u64 (lim N 1)) (.int .u64 (lim N 2)) (.int .u64 (lim N 3)) 25 ds os).2.2.1
  have n3 := fun ds os => (new4 w (.int .u64 (lim N 0)) (.int .u64 (lim N 1)) (.int .u64 (lim N 2)) (.int .u64 (lim N 3)) 25 ds os).2.2.2
  go_enter Tryz.func138, Tryz.ntmps138
  go_wp2
  refine wp_region_quiet_below (by kernel_rfl) (by kernel_rfl) ?_
  repeat (go_big_quiet_step (exact Calls.regrown_of (part_any _ _ _)))
  refine wpQuiet_nil ?_
  intro _ hw'
  obtain ⟨⟨dq, osq⟩, hw''⟩ := hw'
  subst hw''
  clear n0 n1 n2 n3
  go_wp2
  go_returns
  exact ⟨rfl, (((Below.refl _ _).alloc (Nat.le_refl _) _).trans ((below_regrown _ _ _).mono (by simp)))⟩

theorem window_any (N : Int) (k : Int) (hN : 0 ≤ N) (hN' : N < top256) (hk : -9223372036854775808 ≤ k) (hk' : k ≤ 9223372036854775807) (w : World) :
    Calls Tryz.prog 138 #[nv N, .int .i64 k] w fun e w' => e = .returned (.int .u64 (win N k)) ∧ Below w.heap.size w w' := by
  rw [← win_eq N k hN hN']
  exact window_raw N k _ rfl hk hk' w

/-- The i-th byte, from the highest on. -/
def byt (N : Int) (i : Nat) : Int := N / 2 ^ (8 * (31 - i)) % 256
theorem byt_bd (N : Int) (i : Nat) : 0 ≤ byt N i ∧ byt N i < 256 := by unfold byt; omega
theorem byt_win (N : Int) (i : Nat) (hi : i < 32) : IntKind.u8.wrap (win N (8 * (31 - (i : Int)))) = byt N i := by
  rw [IntKind.wrap_u8]
  unfold win byt
  rw [if_pos (by omega)]
  have e : (8 * (31 - (i : Int))).toNat = 8 * (31 - i) := by omega
  rw [e]; omega
def bytsL (N : Int) : List Value := (List.range 32).map fun j => .int .u8 (byt N j)
theorem bytsL_len (N : Int) : (bytsL N).length = 32 := by simp [bytsL]
theorem bytsL_at (N : Int) (j : Nat) (hj : j < 32) : (bytsL N)[j]? = some (.int .u8 (byt N j)) := by simp [bytsL, hj]
theorem Tryz.info147 : (Tryz.prog.info? 147).map (·.size) = some 32 := by kernel_rfl
theorem bytsL_one (N : Int) : ∀ v ∈ bytsL N, v.oneCell' = true := by
  intro v hv
  simp only [bytsL, List.mem_map] at hv
  obtain ⟨j, _, rfl⟩ := hv
  rfl
theorem zeros32 (j : Nat) (hj : j < 32) : (List.replicate 32 (Value.int .u8 0)).toArray[j]? = some (.int .u8 0) := by
  rw [List.getElem?_toArray, List.getElem?_replicate, if_pos hj]
set_option maxHeartbeats 2000000 in
theorem bigBytes_core (N : Int) (hN : 0 ≤ N) (hN' : N < top256) (L : List Value) (hlen : L.length = 32) (hat : ∀ j, j < 32 → L[j]? = some (.int .u8 (byt N j))) (hone : ∀ v ∈ L, v.oneCell' = true) (w : World) :
    Calls Tryz.prog 131 #[nv N] w fun e w' => e = .returned (.agg L.toArray) ∧ Below w.heap.size w w' := by
  go_enter Tryz.func131, Tryz.ntmps131
  go_wp2_with fail
  go_loopw [5] (fun i wr => ∃ k : Nat, k ≤ 32 ∧ i = .int .i64 k ∧ Below w.heap.size w wr ∧ w.heap.size + 1 + 1 < wr.heap.size ∧
      Arr wr w.heap.size 4 (fun j => .int .u64 (lim N j)) ∧ Arr wr (w.heap.size + 1) 32 (fun _ => .int .u8 0) ∧
      Arr wr (w.heap.size + 1 + 1) 32 (fun j => .int .u8 (if j < k then byt N j else 0)))
    (fun i _ => 32 - (intOf i).toNat)
  case atStart =>
    refine ⟨0, by omega, rfl, by go_grown, by go_size, ?_, ?_, ?_⟩
    · refine ((Arr.new _ _ _ _ rfl _ 4 ?_).alloc (by go_size) _).alloc (by go_size) _
      intro j hj
      have : j = 0 ∨ j = 1 ∨ j = 2 ∨ j = 3 := by omega
      rcases this with rfl | rfl | rfl | rfl <;> rfl
    · exact (Arr.new _ _ _ _ (by simp) _ 32 zeros32).alloc (by go_size) _
    · refine Arr.new _ _ _ _ (by simp) _ 32 ?_
      intro j hj
      rw [if_neg (by omega)]
      exact zeros32 j hj
  case round =>
    obtain ⟨k, hk, rfl, hB, hz, A0, A1, A2⟩ := hrel
    have c0 := A0.c
    by_cases hlt : k < 32
    · have k0 : (0 : Int) ≤ (k : Int) := by omega
      have k8 : (k : Int) < 32 := by omega
      have W := fun u => window_any N (8 * (31 - (k : Int))) hN hN' (by omega) (by omega) u
      have bw := byt_win N k hlt
      clear hat hone hlen
      go_wp2_with (go_at_call 138; refine (W _).mono ?_; rintro e w1 ⟨rfl, hb⟩; have A0' := A0.below hb (by omega); have A1' := A1.below hb (by omega); have A2' := A2.below hb hz; have z2 := A2'.z k hlt; have c2 := A2'.c k hlt)
      refine ⟨⟨k + 1, by omega, by go_num, (hB.trans (hb.mono hB.size)).setCell (by show _ ≤ w.heap.size + 1 + 1; omega) _, by rw [size_set]; have := hb.size; omega, A0'.other (by omega) _, A1'.other (by omega) _, ?_⟩, by simp [intOf]; omega⟩
      refine (A2'.set k hlt _).congr ?_
      intro j hj
      by_cases e : j = k
      · subst e; simp
      · simp only [if_neg e]
        by_cases e2 : j < k
        · rw [if_pos e2, if_pos (by omega)]
        · rw [if_neg e2, if_neg (by omega)]
    · have k8 : k = 32 := by omega
      subst k8
      have R2 : wr.rangeAt (w.heap.size + 1 + 1) 0 L := A2.range _ hlen (by intro j hj; rw [if_pos hj]; exact hat j hj)
      have T1 := A1.there
      have sz : L.toArray.size = 32 := by rw [List.size_toArray]; exact hlen
      have h58 : (Tryz.prog.info? 147).map (·.size) = some L.length := by rw [hlen]; exact Tryz.info147
      have h58' : (Tryz.prog.info? 147).map (·.size) = some L.toArray.size := by rw [sz]; exact Tryz.info147
      have T1' : wr.there (w.heap.size + 1) 0 L.toArray.size := by rw [sz]; exact T1
      have one := all_oneCell_toArray hone
      have R1 : (wr.setCells (w.heap.size + 1) 0 L).rangeAt (w.heap.size + 1) 0 L := World.rangeAt_setCells_same wr _ 0 _ (by rw [hlen]; exact T1)
      have lv := run_loadVar_mid (P := Tryz.prog) (wr.setCells (w.heap.size + 1) 0 L) (w.heap.size + 1) 0 147 L _ R1 Tryz.underlying147 rfl h58
      have LV : Hid _ := lv
      have HR2 : Hid _ := R2
      have H58 : Hid _ := h58
      have H58' : Hid _ := h58'
      have HT1 : Hid _ := T1'
      have HO : Hid _ := one
      clear A0 A1 A2 c0 hk T1 R1 lv sz R2 h58 h58' T1' one hat hone hlen
      go_upto_region 7 with (fail)
      refine wp_region_list ?_
      refine wpList_load_mid (by rfl) 147 (.tmp 3) (by rfl) _ _ (by rfl) L _ HR2.out Tryz.underlying147 rfl H58.out ?_
      refine wpList_store_mid (by rfl) 147 (.tmp 2) (.tmp 17) (by rfl) _ _ _ (by rfl) (by rfl) HT1.out H58'.out HO.out ?_
      refine wpList_nil ?_
      have lv := LV.out
      clear HR2 H58 H58' HT1 HO LV
      go_wp2_with fail
      refine bodyPost_ret (v := .agg L.toArray) (results_cell1 Tryz.results131 _ (by rfl) lv) rfl ⟨rfl, ?_⟩
      exact below_setCells hB (by omega) _ _
theorem bigBytes_any (N : Int) (hN : 0 ≤ N) (hN' : N < top256) (w : World) :
    Calls Tryz.prog 131 #[nv N] w fun e w' => e = .returned (.agg (bytsL N).toArray) ∧ Below w.heap.size w w' :=
  bigBytes_core N hN hN' (bytsL N) (bytsL_len N) (bytsL_at N) (bytsL_one N) w
end Go.Proofs.YtjdpeedghpblgaaGreatDoor
/- Numbers as texts and back (carried). -/
set_option linter.all false
set_option maxRecDepth 100000
namespace Go.Proofs.YtjdpeedghpblgaaGreatDoor
open Go.RowKit Go.Sort
/-- Which error a text's length is. -/
def lenE (s n : Int) : Int := if s < n then 11 else if n < s then 12 else 0
set_option maxHeartbeats 1000000 in
theorem lengthError_any (s : ByteArray) (n : Int) (hs : s.size ≤ maxLen) (w : World) :
    Calls Tryz.prog 122 #[.string s, .int .i64 n] w fun e w' => e = .returned (.int .i64 (lenE s.size n)) ∧ w' = w := by
  unfold maxLen at hs
  unfold lenE
  by_cases h : (s.size : Int) < n
  · rw [if_pos h]
    go_enter Tryz.func122, Tryz.ntmps122
    go_wp2
    go_ret
    exact ⟨rfl, rfl⟩
  · rw [if_neg h]
    by_cases h2 : n < (s.size : Int)
    · rw [if_pos h2]
      go_enter Tryz.func122, Tryz.ntmps122
      go_wp2
      go_ret
      exact ⟨rfl, rfl⟩
    · rw [if_neg h2]
      go_enter Tryz.func122, Tryz.ntmps122
      go_wp2
      go_ret
      exact ⟨rfl, rfl⟩
set_option maxHeartbeats 2000000 in
theorem push_any (b : Nat) (f : Nat → Value) (t : Nat) (ht : t < 4) (wd d x : Int) (hw0 : 0 ≤ wd) (hw1 : wd ≤ 8) (hd0 : 0 ≤ d) (hd1 : d < 256) (W : World) (hA : Arr W b 4 f) (hx : f (3 - t) = .int .u64 x) (x0 : 0 ≤ x) (x1 : x < 18446744073709551616) :
    Calls Tryz.prog 123 #[.pointer (some ⟨b, 0, none⟩), .int .i64 t, .int .u64 wd, .int .u8 d] W fun e w' => (∃ v, e = .returned v) ∧ w' = (W.setCell ⟨b, 3 - t, none⟩ (.int .u64 (bits .or .u64 (IntKind.u64.wrap (x * 2 ^ wd.toNat)) d))).drew := by
  have r := hA.c (3 - t) (by omega)
  rw [hx] at r
  have z := hA.z (3 - t) (by omega)
  obtain ⟨q, hq⟩ : ∃ q : Nat, (3 : Int) - (t : Int) = (q : Int) := ⟨3 - t, by omega⟩
  have e : 3 - t = q := by omega
  rw [e] at r z ⊢
  have q0 : (0 : Int) ≤ (q : Int) := by omega
  have q4 : (q : Int) < 4 := by omega
  have t0 : (0 : Int) ≤ (t : Int) := by omega
  have t4 : (t : Int) < 4 := by omega
  clear e hA hx
  go_enter Tryz.func123, Tryz.ntmps123
  go_wp2
  go_region
  go_wp2
  go_end0
  exact ⟨⟨_, rfl⟩, rfl⟩
/-- Part j when k digits of wd bits have come, p digits a part. -/
def pb (wd p : Nat) (f : Nat → Int) : Nat → Nat → Int
  | 0, _ => 0
  | k + 1, j => if j + k / p = 3 then pb wd p f k j * 2 ^ wd + f k else pb wd p f k j
/-- The whole number when k digits have come. -/
def pn (wd : Nat) (f : Nat → Int) : Nat → Int
  | 0 => 0
  | k + 1 => pn wd f k * 2 ^ wd + f k
theorem pn_nn (wd : Nat) (f : Nat → Int) (hf : ∀ i, 0 ≤ f i) : ∀ k, 0 ≤ pn wd f k := by
  intro k
  induction k with
  | zero => exact Int.le_refl _
  | succ k ih => exact Int.add_nonneg (Int.mul_nonneg ih (Int.le_of_lt (Int.pow_pos (by omega)))) (hf k)
theorem pn_lt (wd : Nat) (f : Nat → Int) (hf : ∀ i, 0 ≤ f i ∧ f i < 2 ^ wd) : ∀ k, pn wd f k < 2 ^ (wd * k) := by
  intro k
  induction k with
  | zero => simp [pn]
  | succ k ih =>
    have h := hf k
    show pn wd f k * 2 ^ wd + f k < 2 ^ (wd * (k + 1))
    have e : (2 : Int) ^ (wd * (k + 1)) = 2 ^ (wd * k) * 2 ^ wd := by rw [Nat.mul_add, Nat.mul_one, Int.pow_add]
    have m : (pn wd f k + 1) * 2 ^ wd ≤ 2 ^ (wd * k) * 2 ^ wd := Int.mul_le_mul_of_nonneg_right (by omega) (Int.le_of_lt (Int.pow_pos (by omega)))
    rw [e]
    rw [Int.add_mul, Int.one_mul] at m
    omega
/-- The digits from a given one on. -/
def sh (f : Nat → Int) (a : Nat) : Nat → Int := fun i => f (a + i)
theorem pn_add (wd : Nat) (f : Nat → Int) (a : Nat) : ∀ b, pn wd f (a + b) = pn wd f a * 2 ^ (wd * b) + pn wd (sh f a) b := by
  intro b
  induction b with
  | zero => simp [pn]
  | succ b ih =>
    show pn wd f (a + b) * 2 ^ wd + f (a + b) = pn wd f a * 2 ^ (wd * (b + 1)) + (pn wd (sh f a) b * 2 ^ wd + sh f a b)
    rw [ih, Nat.mul_add, Nat.mul_one, Int.pow_add]
    show _ + f (a + b) = _ + (_ + f (a + b))
    grind
/-- A part while it is being filled holds just its own digits. -/
theorem pb_is (wd p : Nat) (f : Nat → Int) (hp : 0 < p) : ∀ k j, j < 4 → k ≤ 4 * p →
    pb wd p f k j = if k ≤ (3 - j) * p then 0 else if k ≤ (4 - j) * p then pn wd (sh f ((3 - j) * p)) (k - (3 - j) * p) else pn wd (sh f ((3 - j) * p)) p := by
  intro k
  induction k with
  | zero => intro j hj hk; simp [pb]
  | succ k ih =>
    intro j hj hk
    have hi := ih j hj (by omega)
    show (if j + k / p = 3 then pb wd p f k j * 2 ^ wd + f k else pb wd p f k j) = _
    have e4 : (4 - j) * p = (3 - j) * p + p := by
      rw [show 4 - j = 3 - j + 1 by omega, Nat.add_mul, Nat.one_mul]
    by_cases c : j + k / p = 3
    · have d : k / p = 3 - j := by omega
      have lo : (3 - j) * p ≤ k := by rw [← d]; exact Nat.div_mul_le_self k p
      have hi2 : k < (3 - j) * p + p := by
        have := Nat.lt_div_mul_add (a := k) hp
        rw [d] at this
        exact this
      rw [if_pos c, hi, if_neg (show ¬ k + 1 ≤ (3 - j) * p by omega), if_pos (show k + 1 ≤ (4 - j) * p by omega)]
      by_cases c2 : k ≤ (3 - j) * p
      · have ek : k = (3 - j) * p := by omega
        rw [if_pos c2]
        have : k + 1 - (3 - j) * p = 0 + 1 := by omega
        rw [this]
        show 0 * 2 ^ wd + f k = pn wd (sh f ((3 - j) * p)) 0 * 2 ^ wd + sh f ((3 - j) * p) 0
        simp [pn, sh, ← ek]
      · rw [if_neg c2, if_pos (show k ≤ (4 - j) * p by omega)]
        have : k + 1 - (3 - j) * p = (k - (3 - j) * p) + 1 := by omega
        rw [this]
        show _ = pn wd (sh f ((3 - j) * p)) (k - (3 - j) * p) * 2 ^ wd + sh f ((3 - j) * p) (k - (3 - j) * p)
        have : sh f ((3 - j) * p) (k - (3 - j) * p) = f k := by unfold sh; congr 1; omega
        rw [this]
    · rw [if_neg c, hi]
      by_cases c2 : k + 1 ≤ (3 - j) * p
      · rw [if_pos c2, if_pos (by omega)]
      · rw [if_neg c2]
        have nlt : ¬ k < (3 - j) * p + p := by
          intro hlt
          have a1 : k / p = 3 - j := by
            refine Nat.div_eq_of_lt_le (by omega) ?_
            rw [Nat.add_mul, Nat.one_mul]; exact hlt
          omega
        rw [if_neg (show ¬ k ≤ (3 - j) * p by omega), if_neg (show ¬ k + 1 ≤ (4 - j) * p by omega)]
        by_cases c3 : k ≤ (4 - j) * p
        · have : k - (3 - j) * p = p := by omega
          rw [if_pos c3, this]
        · rw [if_neg c3]
theorem or_low (x d : Int) (wd : Nat) (h : wd = 4 ∨ wd = 8) (x0 : 0 ≤ x) (x1 : x * 2 ^ wd < 18446744073709551616) (d0 : 0 ≤ d) (d1 : d < 2 ^ wd) :
    bits .or .u64 (IntKind.u64.wrap (x * 2 ^ wd)) d = x * 2 ^ wd + d := by
  have e : bits .or .u64 d (IntKind.u64.wrap (x * 2 ^ (64 - (64 - wd)))) = d + x * 2 ^ wd := by
    have j := or_join (d * 2 ^ (64 - wd)) x (64 - wd) (by omega) (Int.mul_nonneg d0 (Int.le_of_lt (Int.pow_pos (by omega)))) (by
      rcases h with rfl | rfl
      · have : d < 16 := by simpa using d1
        simp; omega
      · have : d < 256 := by simpa using d1
        simp; omega) x0
    rw [Int.mul_ediv_cancel _ (Int.ne_of_gt (Int.pow_pos (by omega)))] at j
    rw [j]
    have hx : x % 2 ^ (64 - wd) = x := by
      refine Int.emod_eq_of_lt x0 ?_
      rcases h with rfl | rfl
      · simp at x1 ⊢; omega
      · simp at x1 ⊢; omega
    rw [hx, show 64 - (64 - wd) = wd by omega]
  rw [show 64 - (64 - wd) = wd by omega] at e
  have c : ∀ a b : Int, bits .or .u64 a b = bits .or .u64 b a := fun a b => by
    simp only [bits]; rw [BitVec.or_comm]
  rw [c, e, Int.add_comm]
theorem pb_bd (wd p : Nat) (f : Nat → Int) (hp : 0 < p) (hw : wd * p = 64) (hf : ∀ i, 0 ≤ f i ∧ f i < 2 ^ wd) (k j : Nat) (hj : j < 4) (hk : k ≤ 4 * p) : 0 ≤ pb wd p f k j ∧ pb wd p f k j < 18446744073709551616 := by
  have nn : ∀ g : Nat → Int, (∀ i, 0 ≤ g i ∧ g i < 2 ^ wd) → ∀ m, m ≤ p → 0 ≤ pn wd g m ∧ pn wd g m < 18446744073709551616 := fun g hg m hm => by
    refine ⟨pn_nn wd g (fun i => (hg i).1) m, ?_⟩
    have a := pn_lt wd g hg m
    have b : (2 : Nat) ^ (wd * m) ≤ 2 ^ 64 := by rw [← hw]; exact Nat.pow_le_pow_right (by omega) (Nat.mul_le_mul_left wd hm)
    have c : ((2 ^ (wd * m) : Nat) : Int) ≤ ((2 ^ 64 : Nat) : Int) := Int.ofNat_le.2 b
    have d : ((2 ^ (wd * m) : Nat) : Int) = 2 ^ (wd * m) := by push_cast; rfl
    have e : ((2 ^ 64 : Nat) : Int) = 18446744073709551616 := rfl
    omega
  have sf : ∀ a i, 0 ≤ sh f a i ∧ sh f a i < 2 ^ wd := fun a i => hf (a + i)
  rw [pb_is wd p f hp k j hj hk]
  have e4 : (4 - j) * p = (3 - j) * p + p := by rw [show 4 - j = 3 - j + 1 by omega, Nat.add_mul, Nat.one_mul]
  split
  · omega
  · split
    · exact nn _ (sf _) _ (by omega)
    · exact nn _ (sf _) _ (Nat.le_refl _)
theorem pb_room (wd p : Nat) (f : Nat → Int) (hp : 0 < p) (hw : wd * p = 64) (hf : ∀ i, 0 ≤ f i ∧ f i < 2 ^ wd) (k j : Nat) (hj : j < 4) (hk : k < 4 * p) (hjk : j + k / p = 3) : pb wd p f k j * 2 ^ wd < 18446744073709551616 := by
  have h := (pb_bd wd p f hp hw hf (k + 1) j hj (by omega)).2
  have u : pb wd p f (k + 1) j = pb wd p f k j * 2 ^ wd + f k := by show (if _ then _ else _) = _; rw [if_pos hjk]
  have := (hf k).1
  rw [u] at h
  omega
set_option maxRecDepth 100000 in
set_option maxHeartbeats 4000000 in
theorem fromBig_ok (s : ByteArray) (hs : s.size = 32) (w : World) :
    Calls Tryz.prog 110 #[.string s] w fun e w' => e = .returned (.tuple #[.agg #[.int .u64 (pb 8 8 (bt s) 32 0), .int .u64 (pb 8 8 (bt s) 32 1), .int .u64 (pb 8 8 (bt s) 32 2), .int .u64 (pb 8 8 (bt s) 32 3)], .int .i64 0]) ∧ Below w.heap.size w w' := by
  have LE := fun W => lengthError_any s 32 (by rw [hs]; decide) W
  have le0 : lenE (s.size : Int) 32 = 0 := by rw [hs]; decide
  rw [le0] at LE
  go_enter Tryz.func110, Tryz.ntmps110
  go_wp2_with (go_at_call 122; refine (LE _).mono ?_; rintro e w1 ⟨rfl, rfl⟩)
  go_loopw [13] (fun i wr => ∃ k : Nat, k ≤ 32 ∧ i = .int .i64 k ∧ Below w.heap.size w wr ∧ Arr wr w.heap.size 4 (fun _ => .int .u64 0) ∧ Arr wr (w.heap.size + 1) 4 (fun j => .int .u64 (pb 8 8 (bt s) k j)))
    (fun i _ => 32 - (intOf i).toNat)
  case atStart => exact ⟨0, by omega, rfl, by go_grown, Arr.mk4 (by simp [go_sem]) (by simp [go_sem]) (by simp [go_sem]) (by simp [go_sem]) (by simp [go_sem]) (by simp [go_sem]) (by simp [go_sem]) (by simp [go_sem]), Arr.mk4 (by simp [go_sem, pb]) (by simp [go_sem, pb]) (by simp [go_sem, pb]) (by simp [go_sem, pb]) (by simp [go_sem]) (by simp [go_sem]) (by simp [go_sem]) (by simp [go_sem])⟩
  case round =>
    clear LE le0
    obtain ⟨k, hk, rfl, hB, hZ, hA⟩ := hrel
    by_cases hlt : k < 32
    · have k0 : (0 : Int) ≤ (k : Int) := by omega
      have k32 : (k : Int) < 32 := by omega
      obtain ⟨q, hq⟩ : ∃ q : Nat, (k : Int) / 8 = (q : Int) := ⟨k / 8, by omega⟩
      have hf : ∀ i, 0 ≤ bt s i ∧ bt s i < 2 ^ 8 := fun i => by have := bt_bd s i; simpa using this
      have q4 : q < 4 := by omega
      have jq : 3 - q + k / 8 = 3 := by omega
      have bb := bt_bd s k
      have I := fun W => idxS s k (by omega) W
      have rm := pb_room 8 8 (bt s) (by omega) (by omega) hf k (3 - q) (by omega) (by omega) jq
      have xb := pb_bd 8 8 (bt s) (by omega) (by omega) hf k (3 - q) (by omega) (by omega)
      have PU := push_any (w.heap.size + 1) _ q q4 8 (bt s k) (pb 8 8 (bt s) k (3 - q)) (by omega) (by omega) bb.1 bb.2 wr hA rfl xb.1 xb.2
      have ol := or_low (pb 8 8 (bt s) k (3 - q)) (bt s k) 8 (.inr rfl) xb.1 rm bb.1 (hf k).2
      rw [show (8 : Int).toNat = 8 from rfl, ol, show (2 : Int) ^ 8 = 256 by decide] at PU
      have st : Arr ((wr.setCell ⟨w.heap.size + 1, 3 - q, none⟩ (.int .u64 (pb 8 8 (bt s) k (3 - q) * 256 + bt s k))).drew) (w.heap.size + 1) 4 (fun j => .int .u64 (pb 8 8 (bt s) (k + 1) j)) := by
        refine ((hA.set (3 - q) (by omega) _).congr ?_).drew
        intro j hj
        show _ = Value.int .u64 (if j + k / 8 = 3 then pb 8 8 (bt s) k j * 2 ^ 8 + bt s k else pb 8 8 (bt s) k j)
        by_cases h : j = 3 - q
        · subst h; rw [if_pos rfl, if_pos jq, show (2 : Int) ^ 8 = 256 by decide]
        · rw [if_neg h, if_neg (by omega)]
      have sz : Arr ((wr.setCell ⟨w.heap.size + 1, 3 - q, none⟩ (.int .u64 (pb 8 8 (bt s) k (3 - q) * 256 + bt s k))).drew) w.heap.size 4 (fun _ => .int .u64 0) := (hZ.other (by omega) _).drew
      have sB : Below w.heap.size w ((wr.setCell ⟨w.heap.size + 1, 3 - q, none⟩ (.int .u64 (pb 8 8 (bt s) k (3 - q) * 256 + bt s k))).drew) := (hB.setCell (by show _ ≤ w.heap.size + 1; omega) _).drew
      clear ol rm xb hf jq hA hZ hB
      go_wp2_with (go_at_call 123; refine PU.mono ?_; rintro e w1 ⟨⟨v, rfl⟩, rfl⟩)
      exact ⟨⟨k + 1, by omega, by go_num, sB, sz, st⟩, by simp [intOf]; omega⟩
    · have e32 : k = 32 := by omega
      subst e32
      have r1 := hA.c
      have r0 := hZ.c
      have z0 := hZ.z
      clear hA hZ
      go_wp2_with fail
      refine bodyPost_ret (v := .tuple #[.agg #[.int .u64 (pb 8 8 (bt s) 32 0), .int .u64 (pb 8 8 (bt s) 32 1), .int .u64 (pb 8 8 (bt s) 32 2), .int .u64 (pb 8 8 (bt s) 32 3)], .int .i64 0]) (by simp [results, Tryz.results110, go_sem, r0]) rfl ⟨rfl, ?_⟩
      go_grown
theorem pb_lim (wd p : Nat) (f : Nat → Int) (hp : 0 < p) (hw : wd * p = 64) (hf : ∀ i, 0 ≤ f i ∧ f i < 2 ^ wd) (j : Nat) (hj : j < 4) : pb wd p f (4 * p) j = lim (pn wd f (4 * p)) j := by
  have e4 : (4 - j) * p = (3 - j) * p + p := by rw [show 4 - j = 3 - j + 1 by omega, Nat.add_mul, Nat.one_mul]
  have ej : 4 * p = (4 - j) * p + j * p := by rw [← Nat.add_mul]; congr 1; omega
  have a1 : pb wd p f (4 * p) j = pn wd (sh f ((3 - j) * p)) p := by
    rw [pb_is wd p f hp (4 * p) j hj (Nat.le_refl _), if_neg (by omega)]
    split
    · congr 1; omega
    · rfl
  have p64 : (2 : Int) ^ (wd * p) = 18446744073709551616 := by rw [hw]; rfl
  have pj : (2 : Int) ^ (wd * (j * p)) = 18446744073709551616 ^ j := by
    rw [show wd * (j * p) = wd * p * j by rw [Nat.mul_comm j p, Nat.mul_assoc], Int.pow_mul, p64]
  have b0 := pn_nn wd (sh f ((4 - j) * p)) (fun i => (hf _).1) (j * p)
  have b1 := pn_lt wd (sh f ((4 - j) * p)) (fun i => hf _) (j * p)
  have c0 := pn_nn wd (sh f ((3 - j) * p)) (fun i => (hf _).1) p
  have c1 := pn_lt wd (sh f ((3 - j) * p)) (fun i => hf _) p
  rw [p64] at c1
  rw [pj] at b1
  have d1 := pn_add wd f ((4 - j) * p) (j * p)
  have d2 := pn_add wd f ((3 - j) * p) p
  rw [← ej, pj, e4] at d1
  rw [p64] at d2
  have pp : (0 : Int) < 18446744073709551616 ^ j := Int.pow_pos (by omega)
  rw [a1]
  unfold lim
  rw [d1, d2, Int.add_comm, Int.add_mul_ediv_right _ _ (Int.ne_of_gt pp), Int.ediv_eq_zero_of_lt (by rw [e4] at b0; exact b0) (by rw [e4] at b1; exact b1), Int.zero_add]
  omega
theorem nv_pb (wd p : Nat) (f : Nat → Int) (hp : 0 < p) (hw : wd * p = 64) (hf : ∀ i, 0 ≤ f i ∧ f i < 2 ^ wd) :
    (.agg #[.int .u64 (pb wd p f (4 * p) 0), .int .u64 (pb wd p f (4 * p) 1), .int .u64 (pb wd p f (4 * p) 2), .int .u64 (pb wd p f (4 * p) 3)] : Value) = nv (pn wd f (4 * p)) := by
  simp only [nv, pb_lim wd p f hp hw hf 0 (by omega), pb_lim wd p f hp hw hf 1 (by omega), pb_lim wd p f hp hw hf 2 (by omega), pb_lim wd p f hp hw hf 3 (by omega)]
theorem bt_8 (s : ByteArray) : ∀ i, 0 ≤ bt s i ∧ bt s i < 2 ^ 8 := fun i => by have := bt_bd s i; simpa using this
theorem fromBig_yes (s : ByteArray) (hs : s.size = 32) (w : World) :
    Calls Tryz.prog 110 #[.string s] w fun e w' => e = .returned (.tuple #[nv (pn 8 (bt s) 32), .int .i64 0]) ∧ Below w.heap.size w w' := by
  have := fromBig_ok s hs w
  rw [show (32 : Nat) = 4 * 8 from rfl, nv_pb 8 8 (bt s) (by omega) (by omega) (bt_8 s)] at this
  exact this
theorem conv32 (W : World) (g : Nat) (ns : List Int) (h32 : ns.length = 32) (hc : ∀ j, j < 32 → W.cell? ⟨g, j, none⟩ = some (.int .u8 (ns.getD j 0))) :
    (convert 61 9 (.slice (some ⟨g, 0, none⟩) 32 32)).run Tryz.prog W = .ok (.string (mkS ns)) W := by
  rw [run_convert_bytes_string W 61 9 5 _ 32 32 Tryz.underlying61 Tryz.underlying5 Tryz.underlying9]
  refine run_bytesToString W ⟨g, 0, none⟩ 32 32 ns ?_
  have := run_loadCells_list (P := Tryz.prog) W ⟨g, 0, none⟩ (ns.map (Value.int .u8)) (by
    intro j v hv
    rw [Addr.add_mid, Nat.zero_add]
    rw [List.getElem?_map] at hv
    obtain ⟨n, hn, rfl⟩ := Option.map_eq_some_iff.1 hv
    have hj : j < 32 := by rw [← h32]; exact (List.getElem?_eq_some_iff.1 hn).1
    rw [hc j hj, List.getD, hn]; rfl)
  rw [List.length_map, h32] at this
  exact this
theorem store32 (L : List Value) (hlen : L.length = 32) (hone : ∀ v ∈ L, v.oneCell' = true) (W : World) :
    (storeCells ⟨W.heap.size, 0, none⟩ L).run Tryz.prog (W.alloc (.cells #[.int .u8 0, .int .u8 0, .int .u8 0, .int .u8 0, .int .u8 0, .int .u8 0, .int .u8 0, .int .u8 0, .int .u8 0, .int .u8 0, .int .u8 0, .int .u8 0, .int .u8 0, .int .u8 0, .int .u8 0, .int .u8 0, .int .u8 0, .int .u8 0, .int .u8 0, .int .u8 0, .int .u8 0, .int .u8 0, .int .u8 0, .int .u8 0, .int .u8 0, .int .u8 0, .int .u8 0, .int .u8 0, .int .u8 0, .int .u8 0, .int .u8 0, .int .u8 0] 147)) = .ok () (W.alloc (.cells L.toArray 147)) := by
  have := run_storeCells_new (P := Tryz.prog) W 147 #[.int .u8 0, .int .u8 0, .int .u8 0, .int .u8 0, .int .u8 0, .int .u8 0, .int .u8 0, .int .u8 0, .int .u8 0, .int .u8 0, .int .u8 0, .int .u8 0, .int .u8 0, .int .u8 0, .int .u8 0, .int .u8 0, .int .u8 0, .int .u8 0, .int .u8 0, .int .u8 0, .int .u8 0, .int .u8 0, .int .u8 0, .int .u8 0, .int .u8 0, .int .u8 0, .int .u8 0, .int .u8 0, .int .u8 0, .int .u8 0, .int .u8 0, .int .u8 0] L.toArray (by rw [List.size_toArray, hlen]; exact Tryz.info147) (by show 32 = L.toArray.size; rw [List.size_toArray, hlen]) (all_oneCell_toArray hone)
  rw [List.toList_toArray] at this
  exact this
set_option maxHeartbeats 1000000 in
theorem big_core (N : Int) (L : List Value) (S : ByteArray) (hlen : L.length = 32) (ST : ∀ W : World, (storeCells ⟨W.heap.size, 0, none⟩ L).run Tryz.prog (W.alloc (.cells #[.int .u8 0, .int .u8 0, .int .u8 0, .int .u8 0, .int .u8 0, .int .u8 0, .int .u8 0, .int .u8 0, .int .u8 0, .int .u8 0, .int .u8 0, .int .u8 0, .int .u8 0, .int .u8 0, .int .u8 0, .int .u8 0, .int .u8 0, .int .u8 0, .int .u8 0, .int .u8 0, .int .u8 0, .int .u8 0, .int .u8 0, .int .u8 0, .int .u8 0, .int .u8 0, .int .u8 0, .int .u8 0, .int .u8 0, .int .u8 0, .int .u8 0, .int .u8 0] 147)) = .ok () (W.alloc (.cells L.toArray 147)))
    (CV : ∀ W : World, (convert 61 9 (.slice (some ⟨W.heap.size, 0, none⟩) 32 32)).run Tryz.prog (W.alloc (.cells L.toArray 147)) = .ok (.string S) (W.alloc (.cells L.toArray 147)))
    (BB : ∀ W, Calls Tryz.prog 131 #[nv N] W fun e w' => e = .returned (.agg L.toArray) ∧ Below W.heap.size W w') (w : World) :
    Calls Tryz.prog 119 #[nv N] w fun e w' => e = .returned (.string S) ∧ Below w.heap.size w w' := by
  go_enter Tryz.func119, Tryz.ntmps119
  go_wp2_with fail
  refine (BB _).mono ?_
  rintro e w1 ⟨rfl, hb1⟩
  have hB1 : Below w.heap.size w w1 := Below.trans (by go_grown) (hb1.mono (by go_size))
  clear hb1 BB
  go_wp2_with fail
  go_ret
  exact ⟨rfl, hB1.alloc hB1.size _⟩
/-- A number's bytes, the highest first. -/
def bgL (N : Int) : List Int := (List.range 32).map (byt N)
theorem bgL_at (N : Int) (j : Nat) (hj : j < 32) : (bgL N)[j]? = some (byt N j) := by simp [bgL, hj]
theorem big_any (N : Int) (hN : 0 ≤ N) (hN' : N < top256) (w : World) :
    Calls Tryz.prog 119 #[nv N] w fun e w' => e = .returned (.string (mkS (bgL N))) ∧ Below w.heap.size w w' := by
  have hat := bytsL_at N
  refine big_core N (bytsL N) (mkS (bgL N)) (bytsL_len N) (fun W => store32 _ (bytsL_len N) (bytsL_one N) W) (fun W => ?_) (fun W => bigBytes_any N hN hN' W) w
  refine conv32 _ _ _ (by simp [bgL]) ?_
  intro j hj
  have := (Arr.new W (bytsL N).toArray 147 W.heap.size rfl (fun j => .int .u8 (byt N j)) 32 (by intro i hi; rw [List.getElem?_toArray]; exact hat i hi)).c j hj
  rw [this, List.getD, bgL_at N j hj]; rfl
end Go.Proofs.YtjdpeedghpblgaaGreatDoor
/- Numbers compared, laid open, there and back (carried). -/
set_option linter.all false
set_option maxRecDepth 100000
namespace Go.Proofs.YtjdpeedghpblgaaGreatDoor
open Go.RowKit Go.Sort
theorem eq24g (d : Nat) (he : ∀ (a b : Int) (w : World), (Op.equalIn d 23 (.int .u64 a) (.int .u64 b)).run Tryz.prog w = .ok (a == b) w) (a0 a1 a2 a3 b0 b1 b2 b3 : Int) (w : World) : (Op.equalIn (d + 1) 25 (.agg #[.int .u64 a0, .int .u64 a1, .int .u64 a2, .int .u64 a3]) (.agg #[.int .u64 b0, .int .u64 b1, .int .u64 b2, .int .u64 b3])).run Tryz.prog w = .ok (a0 == b0 && (a1 == b1 && (a2 == b2 && a3 == b3))) w := by
  have p0 : ∀ (v0 v1 v2 v3 : Int) (w : World), (part 23 #[.int .u64 v0, .int .u64 v1, .int .u64 v2, .int .u64 v3] 0).run Tryz.prog w = .ok (.int .u64 v0) w := fun _ _ _ _ _ => by kernel_rfl
  have p1 : ∀ (v0 v1 v2 v3 : Int) (w : World), (part 23 #[.int .u64 v0, .int .u64 v1, .int .u64 v2, .int .u64 v3] 1).run Tryz.prog w = .ok (.int .u64 v1) w := fun _ _ _ _ _ => by kernel_rfl
  have p2 : ∀ (v0 v1 v2 v3 : Int) (w : World), (part 23 #[.int .u64 v0, .int .u64 v1, .int .u64 v2, .int .u64 v3] 2).run Tryz.prog w = .ok (.int .u64 v2) w := fun _ _ _ _ _ => by kernel_rfl
  have p3 : ∀ (v0 v1 v2 v3 : Int) (w : World), (part 23 #[.int .u64 v0, .int .u64 v1, .int .u64 v2, .int .u64 v3] 3).run Tryz.prog w = .ok (.int .u64 v3) w := fun _ _ _ _ _ => by kernel_rfl
  have hs : ∀ w, (Go.sizeOf 23).run Tryz.prog w = .ok 1 w := fun _ => by kernel_rfl
  simp only [Op.equalIn, Sem.run_bind, run_underlying Tryz.underlying25, Result.andThen_ok, hs]
  cases h0 : (a0 == b0) <;> cases h1 : (a1 == b1) <;> cases h2 : (a2 == b2) <;> cases h3 : (a3 == b3) <;> simp [Std.Legacy.Range.forIn_eq_forIn_range', List.range', he, p0, p1, p2, p3, h0, h1, h2, h3, Sem.run_bind, Sem.run_ite]
theorem eq24 (a0 a1 a2 a3 b0 b1 b2 b3 : Int) (w : World) : (Op.equalIn 10000 25 (.agg #[.int .u64 a0, .int .u64 a1, .int .u64 a2, .int .u64 a3]) (.agg #[.int .u64 b0, .int .u64 b1, .int .u64 b2, .int .u64 b3])).run Tryz.prog w = .ok (a0 == b0 && (a1 == b1 && (a2 == b2 && a3 == b3))) w :=
  eq24g 9999 (fun a b w => run_equalIn_int w 9998 23 .u64 .u64 a b Tryz.underlying23) a0 a1 a2 a3 b0 b1 b2 b3 w
attribute [local go_sem] idx24_0 idx24_1 idx24_2 idx24_3
/-- Where the guess stands: L less 2^256 times what is owed is what is left by q. -/
def DL (T D q L o : Int) : Prop := L - top256 * o = T - q * D ∧ 0 ≤ L ∧ L < top256 ∧ 0 ≤ o ∧ T - q * D < D ∧ 0 ≤ q ∧ q ≤ 18446744073709551615
theorem DL.bd {T D q L o : Int} (H : DL T D q L o) (hT : 0 ≤ T) (hD : 0 ≤ D) (hD' : D < top256) : 0 ≤ o ∧ o ≤ 18446744073709551615 := by
  obtain ⟨e, l0, l1, o0, _, q0, q1⟩ := H
  have h1 : q * D ≤ 18446744073709551615 * 115792089237316195423570985008687907853269984665640564039457584007913129639935 := Int.mul_le_mul q1 (by unfold top256 at hD'; omega) hD (by omega)
  refine ⟨o0, ?_⟩
  unfold top256 at *
  generalize q * D = p at *
  omega
theorem top_pow : top256 = 2 ^ 256 := by decide
attribute [local go_sem] eq24
theorem pn_congr (wd : Nat) (f g : Nat → Int) : ∀ k, (∀ i, i < k → f i = g i) → pn wd f k = pn wd g k := by
  intro k
  induction k with
  | zero => intro _; rfl
  | succ k ih => intro h; show pn wd f k * _ + f k = pn wd g k * _ + g k; rw [ih (fun i hi => h i (by omega)), h k (by omega)]
theorem pn_byt (N : Int) (h0 : 0 ≤ N) (h1 : N < top256) : ∀ k, k ≤ 32 → pn 8 (byt N) k = N / 2 ^ (8 * (32 - k)) := by
  intro k
  induction k with
  | zero =>
    intro _
    show 0 = _
    rw [show 8 * (32 - 0) = 256 from rfl, ← top_pow]
    exact (Int.ediv_eq_zero_of_lt h0 h1).symm
  | succ k ih =>
    intro hk
    show pn 8 (byt N) k * 2 ^ 8 + byt N k = _
    rw [ih (by omega)]
    unfold byt
    rw [show 8 * (32 - k) = 8 * (31 - k) + 8 by omega, show 8 * (32 - (k + 1)) = 8 * (31 - k) by omega, Int.pow_add, ← Int.ediv_ediv_of_nonneg (Int.le_of_lt (Int.pow_pos (by omega)))]
    generalize N / 2 ^ (8 * (31 - k)) = x
    rw [show (2 : Int) ^ 8 = 256 by decide]
    omega
theorem pn_all (N : Int) (h0 : 0 ≤ N) (h1 : N < top256) : pn 8 (byt N) 32 = N := by
  rw [pn_byt N h0 h1 32 (Nat.le_refl _)]; simp
theorem big_back (N : Int) (h0 : 0 ≤ N) (h1 : N < top256) : pn 8 (bt (mkS (bgL N))) 32 = N := by
  have e : pn 8 (bt (mkS (bgL N))) 32 = pn 8 (byt N) 32 := pn_congr 8 _ _ 32 fun i hi => by
    have b := byt_bd N i
    exact mkS_bt _ i _ (bgL_at N i hi) b.1 b.2
  rw [e, pn_all N h0 h1]
open Go.ChangeMaps (open_string shut_string)
theorem own : ownKnob Tryz.prog.godebug = none := by kernel_rfl
theorem laidOut : laidOutB Tryz.prog = true := by kernel_rfl
theorem cells22 : Tryz.prog.cellsOf 23 = 1 := by kernel_rfl
theorem cells24 : Tryz.prog.cellsOf 25 = 4 := by kernel_rfl
theorem list4 {α : Type} (l : List α) (h : (⟨l⟩ : Array α).size = 4) : ∃ a b c d, l = [a, b, c, d] := by
  match l, h with
  | [a, b, c, d], _ => exact ⟨a, b, c, d, rfl⟩
set_option maxRecDepth 100000 in
theorem open24 {H : Type} {enc : TypeId × Value → H} {W : World} {base : Nat} {v : Value} {d : DataW H} {p : List MemPlace}
    (hv : Value.okWide Tryz.prog W .any base 25 v) (h : DataW.Trod enc Tryz.prog W 0 (fun _ => true) true 25 v d p) : ∃ N : Int, 0 ≤ N ∧ N < top256 ∧ v = nv N := by
  obtain ⟨cs, rfl, hsz, _⟩ : ∃ cs, v = .agg cs ∧ cs.size = Tryz.prog.cellsOf 25 ∧ Row.okWide Tryz.prog W .any base 25 cs := by
    simpa [Value.okWide, Tryz.underlying25] using hv
  rw [cells24] at hsz
  obtain ⟨l⟩ := cs
  obtain ⟨c0, c1, c2, c3, rfl⟩ := list4 l hsz
  obtain ⟨fuel, hf⟩ := h
  obtain ⟨y0, y1, y2, y3, m, hx, hy0, hy1, hy2, hy3⟩ := Go.ChangeShapes.trod_array4 Tryz.underlying25 cells22 hf
  obtain ⟨x0, e0, rfl, w0⟩ := DataW.trod_int Tryz.underlying23 hy0
  obtain ⟨x1, e1, rfl, w1⟩ := DataW.trod_int Tryz.underlying23 hy1
  obtain ⟨x2, e2, rfl, w2⟩ := DataW.trod_int Tryz.underlying23 hy2
  obtain ⟨x3, e3, rfl, w3⟩ := DataW.trod_int Tryz.underlying23 hy3
  simp at e0 e1 e2 e3
  subst e0 e1 e2 e3
  have b0 := bounds_u64 w0
  have b1 := bounds_u64 w1
  have b2 := bounds_u64 w2
  have b3 := bounds_u64 w3
  have bd := V4_bd b0.1 (by omega) b1.1 (by omega) b2.1 (by omega) b3.1 (show x3 < 18446744073709551616 by omega)
  refine ⟨V4 x0 x1 x2 x3, bd.1, bd.2, ?_⟩
  obtain ⟨k0, k1, k2, k3⟩ := lims_of (N := V4 x0 x1 x2 x3) (q := 0) b0.1 (by omega) b1.1 (by omega) b2.1 (by omega) b3.1 (by omega) (by omega)
  simp only [nv, k0, k1, k2, k3]
theorem Arr.drewN {w : World} {b n : Nat} {f : Nat → Value} (h : Arr w b n f) (m : Nat) : Arr (w.drewN m) b n f := fun j hj => ⟨by rw [World.cell?_drewN]; exact (h j hj).1, by rw [World.frozen?_drewN]; exact (h j hj).2⟩
theorem belowN {B : Nat} {a w : World} (h : Below B a w) (m : Nat) : Below B a (w.drewN m) := below_drewN h m
theorem div_succ (A : Int) (m : Nat) : A / 18446744073709551616 ^ m = 18446744073709551616 * (A / 18446744073709551616 ^ (m + 1)) + lim A m := by
  have hp : (0 : Int) < 18446744073709551616 ^ m := Int.pow_pos (by omega)
  rw [Int.pow_succ, ← Int.ediv_ediv_of_nonneg (Int.le_of_lt hp)]
  unfold lim
  omega
theorem hi_lt {A B : Int} {m : Nat} (h : A / 18446744073709551616 ^ (m + 1) = B / 18446744073709551616 ^ (m + 1)) (hl : lim A m < lim B m) : A < B := by
  have a := div_succ A m
  have b := div_succ B m
  by_cases c : A < B
  · exact c
  · have hp : (0 : Int) < 18446744073709551616 ^ m := Int.pow_pos (by omega)
    have := Int.ediv_le_ediv hp (show B ≤ A by omega)
    omega
theorem hi_eq {A B : Int} {m : Nat} (h : A / 18446744073709551616 ^ (m + 1) = B / 18446744073709551616 ^ (m + 1)) (hl : lim A m = lim B m) : A / 18446744073709551616 ^ m = B / 18446744073709551616 ^ m := by
  have a := div_succ A m
  have b := div_succ B m
  omega
end Go.Proofs.YtjdpeedghpblgaaGreatDoor
/- The reference of numbers as texts (carried). -/
set_option linter.all false
set_option maxRecDepth 100000
namespace Go.Proofs.YtjdpeedghpblgaaGreatDoor
open Go.RowKit Go.Sort
/-- A number's bytes, the lowest first. -/
def ltL (N : Int) : List Int := (List.range 32).map fun j => byt N (31 - j)
theorem ltL_at (N : Int) (j : Nat) (hj : j < 32) : (ltL N)[j]? = some (byt N (31 - j)) := by simp [ltL, hj]
/-- The j-th half of 32 bits. -/
def hf (N : Int) (j : Nat) : Int := N / 4294967296 ^ j % 4294967296
set_option maxHeartbeats 1000000 in
theorem sized_any (s : ByteArray) (n : Int) (hs : s.size ≤ maxLen) (w : World) :
    Calls Tryz.prog 134 #[.string s, .int .i64 n] w fun e w' => e = .returned (.int .i64 (lenE s.size n)) ∧ w' = w := by
  unfold maxLen at hs
  unfold lenE
  by_cases h : (s.size : Int) < n
  · rw [if_pos h]
    go_enter Tryz.func134, Tryz.ntmps134
    go_wp2
    go_ret
    exact ⟨rfl, rfl⟩
  · rw [if_neg h]
    by_cases h2 : n < (s.size : Int)
    · rw [if_pos h2]
      go_enter Tryz.func134, Tryz.ntmps134
      go_wp2
      go_ret
      exact ⟨rfl, rfl⟩
    · rw [if_neg h2]
      go_enter Tryz.func134, Tryz.ntmps134
      go_wp2
      go_ret
      exact ⟨rfl, rfl⟩
theorem made32 : ∃ C : Array Value, (∀ j, j < 32 → C[j]? = some (.int .u8 0)) ∧ ∀ W : World, (Instr.makeSlice 61 (.int .i64 32) (.int .i64 32)).run Tryz.prog W = .ok (.slice (some ⟨W.heap.size, 0, none⟩) 32 32) (W.alloc (.cells C 5)) := by
  obtain ⟨i0, hi, hz0, hz1, hz2⟩ := info_parts Tryz.info5
  refine ⟨madeCells (Value.int .u8 0).cells (32 * 1), ?_, fun W => ?_⟩
  · intro j hj
    simp only [madeCells, Value.cells]
    rw [Array.getElem?_map, Array.getElem?_range, if_pos (by omega)]
    simp [Nat.mod_one]
  · have := run_make (P := Tryz.prog) W 61 5 i0 (.int .u8 0) Tryz.underlying61 hi hz0 .i64 .i64 32 32 (by omega) (by omega) (by rw [hz2]; omega) (by omega)
    rw [hz1] at this
    exact this
theorem byt_lim (N : Int) (i q r : Nat) (hi : i = 8 * q + r) (hr : r < 8) (hq : q < 4) : lim N q / 2 ^ (8 * r) % 256 = byt N (31 - i) := by
  unfold byt lim
  have e1 : (18446744073709551616 : Int) ^ q = 2 ^ (64 * q) := by rw [Int.pow_mul]; rfl
  have e2 : 8 * (31 - (31 - i)) = 64 * q + 8 * r := by omega
  rw [e1, e2, Int.pow_add, ← Int.ediv_ediv_of_nonneg (Int.le_of_lt (Int.pow_pos (by omega)))]
  generalize N / 2 ^ (64 * q) = x
  have h : r = 0 ∨ r = 1 ∨ r = 2 ∨ r = 3 ∨ r = 4 ∨ r = 5 ∨ r = 6 ∨ r = 7 := by omega
  rcases h with rfl | rfl | rfl | rfl | rfl | rfl | rfl | rfl <;> simp <;> omega
set_option maxRecDepth 100000 in
set_option maxHeartbeats 4000000 in
theorem refLittle_core (N : Int) (C : Array Value) (hC : Hid (∀ j, j < 32 → C[j]? = some (.int .u8 0))) (mk : ∀ W : World, (Instr.makeSlice 61 (.int .i64 32) (.int .i64 32)).run Tryz.prog W = .ok (.slice (some ⟨W.heap.size, 0, none⟩) 32 32) (W.alloc (.cells C 5))) (w : World) :
    Calls Tryz.prog 125 #[nv N] w fun e w' => e = .returned (.string (mkS (ltL N))) ∧ Below w.heap.size w w' := by
  go_enter Tryz.func125, Tryz.ntmps125
  go_wp2_with fail
  go_loopw [4] (fun i wr => ∃ k : Nat, k ≤ 32 ∧ i = .int .i64 k ∧ Below w.heap.size w wr ∧ Arr wr w.heap.size 4 (fun j => .int .u64 (lim N j)) ∧ Arr wr (w.heap.size + 1) 32 (fun j => .int .u8 (if j < k then byt N (31 - j) else 0)))
    (fun i _ => 32 - (intOf i).toNat)
  case atStart =>
    refine ⟨0, by omega, rfl, by go_grown, Arr.mk4 (by simp [go_sem]) (by simp [go_sem]) (by simp [go_sem]) (by simp [go_sem]) (by simp [go_sem]) (by simp [go_sem]) (by simp [go_sem]) (by simp [go_sem]), ?_⟩
    exact (Arr.new _ _ _ _ (by simp) _ 32 hC.out).congr (by intro j hj; rw [if_neg (by omega)])
  case round =>
    clear mk hC
    obtain ⟨k, hk, rfl, hB, hN, hA⟩ := hrel
    by_cases hlt : k < 32
    · have k0 : (0 : Int) ≤ (k : Int) := by omega
      have k32 : (k : Int) < 32 := by omega
      obtain ⟨q, r, hq, hr, e, q4, r8⟩ : ∃ q r : Nat, (k : Int) / 8 = (q : Int) ∧ (k : Int) % 8 = (r : Int) ∧ k = 8 * q + r ∧ q < 4 ∧ r < 8 := ⟨k / 8, k % 8, by omega, by omega, by omega, by omega, by omega⟩
      have q0 : (0 : Int) ≤ (q : Int) := by omega
      have q4' : (q : Int) < 4 := by omega
      have r0 : (0 : Int) ≤ (r : Int) := by omega
      have r8' : (r : Int) < 8 := by omega
      have rn := hN.c q q4
      have ra := hA.c k hlt
      have za := hA.z k hlt
      have tn : (8 * (r : Int)).toNat = 8 * r := by omega
      have bl := byt_lim N k q r e r8 q4
      have wb : IntKind.u8.wrap (lim N q / 2 ^ (8 * r)) = byt N (31 - k) := by rw [IntKind.wrap_u8]; exact bl
      have st : Arr (wr.setCell ⟨w.heap.size + 1, k, none⟩ (.int .u8 (byt N (31 - k)))) (w.heap.size + 1) 32 (fun j => .int .u8 (if j < k + 1 then byt N (31 - j) else 0)) := by
        refine (hA.set k hlt _).congr ?_
        intro j hj
        by_cases h : j = k
        · subst h; rw [if_pos rfl, if_pos (by omega)]
        · rw [if_neg h]
          by_cases h2 : j < k
          · rw [if_pos h2, if_pos (by omega)]
          · rw [if_neg h2, if_neg (by omega)]
      have sn := hN.other (b' := w.heap.size + 1) (k := k) (by omega) (.int .u8 (byt N (31 - k)))
      have sB : Below w.heap.size w (wr.setCell ⟨w.heap.size + 1, k, none⟩ (.int .u8 (byt N (31 - k)))) := hB.setCell (by show _ ≤ w.heap.size + 1; omega) _
      clear bl e hA hN hB
      go_wp2_with fail
      exact ⟨⟨k + 1, by omega, by go_num, sB, sn, st⟩, by simp [intOf]; omega⟩
    · have e32 : k = 32 := by omega
      subst e32
      have cv := conv32 wr (w.heap.size + 1) (ltL N) (by simp [ltL]) (by intro j hj; rw [hA.c j hj, if_pos hj, List.getD, ltL_at N j hj]; rfl)
      clear hA hN
      generalize hT : mkS (ltL N) = T at cv
      have HT : Hid (mkS (ltL N) = T) := hT
      clear hT
      go_wp2_with fail
      go_ret
      exact ⟨by rw [HT.out]; rfl, hB⟩
theorem refLittle_any (N : Int) (w : World) : Calls Tryz.prog 125 #[nv N] w fun e w' => e = .returned (.string (mkS (ltL N))) ∧ Below w.heap.size w w' := by
  obtain ⟨C, hC, mk⟩ := made32
  exact refLittle_core N C hC mk w
theorem madeN (n : Nat) (hn : (n : Int) ≤ 281474976710656) : ∃ C : Array Value, (∀ j, j < n → C[j]? = some (.int .u8 0)) ∧ ∀ W : World, (Instr.makeSlice 61 (.int .i64 (n : Int)) (.int .i64 (n : Int))).run Tryz.prog W = .ok (.slice (some ⟨W.heap.size, 0, none⟩) n n) (W.alloc (.cells C 5)) := by
  obtain ⟨i0, hi, hz0, hz1, hz2⟩ := info_parts Tryz.info5
  refine ⟨madeCells (Value.int .u8 0).cells (n * 1), ?_, fun W => ?_⟩
  · intro j hj
    simp only [madeCells, Value.cells]
    rw [Array.getElem?_map, Array.getElem?_range, if_pos (by omega)]
    simp [Nat.mod_one]
  · have := run_make (P := Tryz.prog) W 61 5 i0 (.int .u8 0) Tryz.underlying61 hi hz0 .i64 .i64 n n (by omega) (by omega) (by rw [hz2]; omega) (by omega)
    rw [hz1] at this
    exact this
theorem convG (W : World) (g n : Nat) (ns : List Int) (hn : ns.length = n) (hc : ∀ j, j < n → W.cell? ⟨g, j, none⟩ = some (.int .u8 (ns.getD j 0))) :
    (convert 61 9 (.slice (some ⟨g, 0, none⟩) n n)).run Tryz.prog W = .ok (.string (mkS ns)) W := by
  rw [run_convert_bytes_string W 61 9 5 _ n n Tryz.underlying61 Tryz.underlying5 Tryz.underlying9]
  refine run_bytesToString W ⟨g, 0, none⟩ n n ns ?_
  have := run_loadCells_list (P := Tryz.prog) W ⟨g, 0, none⟩ (ns.map (Value.int .u8)) (by
    intro j v hv
    rw [Addr.add_mid, Nat.zero_add]
    rw [List.getElem?_map] at hv
    obtain ⟨m, hm, rfl⟩ := Option.map_eq_some_iff.1 hv
    have hj : j < n := by rw [← hn]; exact (List.getElem?_eq_some_iff.1 hm).1
    rw [hc j hj, List.getD, hm]; rfl)
  rw [List.length_map, hn] at this
  exact this
/-- A text's bytes from the last to the first. -/
def rvL (s : ByteArray) : List Int := (List.range s.size).map fun j => bt s (s.size - 1 - j)
theorem rvL_at (s : ByteArray) (j : Nat) (hj : j < s.size) : (rvL s)[j]? = some (bt s (s.size - 1 - j)) := by simp [rvL, hj]
set_option maxRecDepth 100000 in
set_option maxHeartbeats 4000000 in
theorem turned_core (s : ByteArray) (n : Nat) (hsn : s.size = n) (hn : (n : Int) ≤ 281474976710656) (C : Array Value) (hC : Hid (∀ j, j < n → C[j]? = some (.int .u8 0))) (mk : ∀ W : World, (Instr.makeSlice 61 (.int .i64 (n : Int)) (.int .i64 (n : Int))).run Tryz.prog W = .ok (.slice (some ⟨W.heap.size, 0, none⟩) n n) (W.alloc (.cells C 5))) (w : World) :
    Calls Tryz.prog 124 #[.string s] w fun e w' => e = .returned (.string (mkS (rvL s))) ∧ Below w.heap.size w w' := by
  go_enter Tryz.func124, Tryz.ntmps124
  go_wp2_with fail
  go_loopw [4] (fun i wr => ∃ k : Nat, k ≤ n ∧ i = .int .i64 k ∧ Below w.heap.size w wr ∧ Arr wr w.heap.size n (fun j => .int .u8 (if j < k then bt s (n - 1 - j) else 0)))
    (fun i _ => n - (intOf i).toNat)
  case atStart =>
    refine ⟨0, by omega, rfl, by go_grown, ?_⟩
    exact (Arr.new _ _ _ _ (by simp) _ n hC.out).congr (by intro j hj; rw [if_neg (by omega)])
  case round =>
    clear mk hC
    obtain ⟨k, hk, rfl, hB, hA⟩ := hrel
    by_cases hlt : k < n
    · have k0 : (0 : Int) ≤ (k : Int) := by omega
      have kn : (k : Int) < (n : Int) := by omega
      obtain ⟨q, hq⟩ : ∃ q : Nat, (n : Int) - 1 - (k : Int) = (q : Int) := ⟨n - 1 - k, by omega⟩
      have qe : q = n - 1 - k := by omega
      have I := fun W => idxS s q (by omega) W
      have ra := hA.c k hlt
      have za := hA.z k hlt
      have st : Arr (wr.setCell ⟨w.heap.size, k, none⟩ (.int .u8 (bt s q))) w.heap.size n (fun j => .int .u8 (if j < k + 1 then bt s (n - 1 - j) else 0)) := by
        refine (hA.set k hlt _).congr ?_
        intro j hj
        by_cases h : j = k
        · subst h; rw [if_pos rfl, if_pos (by omega), qe]
        · rw [if_neg h]
          by_cases h2 : j < k
          · rw [if_pos h2, if_pos (by omega)]
          · rw [if_neg h2, if_neg (by omega)]
      have sB : Below w.heap.size w (wr.setCell ⟨w.heap.size, k, none⟩ (.int .u8 (bt s q))) := hB.setCell (by show _ ≤ w.heap.size; omega) _
      clear qe hA hB
      go_wp2_with fail
      exact ⟨⟨k + 1, by omega, by go_num, sB, st⟩, by simp [intOf]; omega⟩
    · have en : k = n := by omega
      subst en
      have cv := convG wr w.heap.size k (rvL s) (by simp [rvL, hsn]) (by intro j hj; rw [hA.c j hj, if_pos hj, List.getD, rvL_at s j (by omega), hsn]; rfl)
      clear hA
      generalize hT : mkS (rvL s) = T at cv
      have HT : Hid (mkS (rvL s) = T) := hT
      clear hT
      go_wp2_with fail
      go_ret
      exact ⟨by rw [HT.out]; rfl, hB⟩
theorem turned_any (s : ByteArray) (hn : (s.size : Int) ≤ 281474976710656) (w : World) :
    Calls Tryz.prog 124 #[.string s] w fun e w' => e = .returned (.string (mkS (rvL s))) ∧ Below w.heap.size w w' := by
  obtain ⟨C, hC, mk⟩ := madeN s.size hn
  exact turned_core s s.size rfl hn C hC mk w
theorem rv_lt (N : Int) : rvL (mkS (ltL N)) = bgL N := by
  have sz : (mkS (ltL N)).size = 32 := by rw [mkS_size]; simp [ltL]
  have at1 := rvL_at (mkS (ltL N))
  have b1 := fun i (hi : i < 32) => mkS_bt (ltL N) i _ (ltL_at N i hi) (byt_bd N (31 - i)).1 (byt_bd N (31 - i)).2
  have len : (rvL (mkS (ltL N))).length = 32 := by unfold rvL; rw [List.length_map, List.length_range, sz]
  generalize mkS (ltL N) = K at *
  apply List.ext_getElem?
  intro i
  by_cases hi : i < 32
  · rw [at1 i (by rw [sz]; exact hi), bgL_at N i hi, sz, show 32 - 1 - i = 31 - i by omega, b1 (31 - i) (by omega), show 31 - (31 - i) = i by omega]
  · rw [List.getElem?_eq_none (by rw [len]; omega), List.getElem?_eq_none (by simp [bgL]; omega)]
set_option maxHeartbeats 1000000 in
theorem refBig_core (N : Int) (K G : ByteArray) (C19 : ∀ W, Calls Tryz.prog 125 #[nv N] W fun e w' => e = .returned (.string K) ∧ Below W.heap.size W w') (C40 : ∀ W, Calls Tryz.prog 124 #[.string K] W fun e w' => e = .returned (.string G) ∧ Below W.heap.size W w') (w : World) :
    Calls Tryz.prog 112 #[nv N] w fun e w' => e = .returned (.string G) ∧ Below w.heap.size w w' := by
  go_enter Tryz.func112, Tryz.ntmps112
  go_wp2_with fail
  refine (C19 _).mono ?_
  rintro e w1 ⟨rfl, hb1⟩
  have hB1 : Below w.heap.size w w1 := Below.trans (by go_grown) (hb1.mono (by go_size))
  clear hb1
  go_wp2_with fail
  refine (C40 _).mono ?_
  rintro e w2 ⟨rfl, hb2⟩
  have hB2 := hB1.trans (hb2.mono hB1.size)
  clear hb2 hB1
  go_wp2_with fail
  go_ret
  exact ⟨rfl, hB2⟩
theorem refBig_any (N : Int) (w : World) : Calls Tryz.prog 112 #[nv N] w fun e w' => e = .returned (.string (mkS (bgL N))) ∧ Below w.heap.size w w' := by
  refine refBig_core N (mkS (ltL N)) (mkS (bgL N)) (fun W => refLittle_any N W) (fun W => ?_) w
  have sz : (mkS (ltL N)).size = 32 := by rw [mkS_size]; simp [ltL]
  have := turned_any (mkS (ltL N)) (by rw [sz]; omega) W
  rw [rv_lt] at this
  exact this
theorem pn_first (wd : Nat) (g : Nat → Int) (b : Nat) : pn wd g (b + 1) = g 0 * 2 ^ (wd * b) + pn wd (sh g 1) b := by
  have := pn_add wd g 1 b
  rw [Nat.add_comm 1 b] at this
  rw [this]
  show (0 * 2 ^ wd + g 0) * _ + _ = _
  rw [Int.zero_mul, Int.zero_add]
/-- Part j when k bytes have come, the lowest first. -/
def pl (f : Nat → Int) : Nat → Nat → Int
  | 0, _ => 0
  | k + 1, j => if j = k / 8 then pl f k j + f k * 2 ^ (8 * (k % 8)) else pl f k j
theorem pl_is (f : Nat → Int) : ∀ k j, pl f k j = if k ≤ 8 * j then 0 else if k ≤ 8 * j + 8 then pn 8 (fun i => f (k - 1 - i)) (k - 8 * j) else pn 8 (fun i => f (8 * j + 7 - i)) 8 := by
  intro k
  induction k with
  | zero => intro j; simp [pl]
  | succ k ih =>
    intro j
    have hi := ih j
    show (if j = k / 8 then pl f k j + f k * 2 ^ (8 * (k % 8)) else pl f k j) = _
    by_cases c : j = k / 8
    · rw [if_pos c, hi, if_neg (show ¬ k + 1 ≤ 8 * j by omega), if_pos (show k + 1 ≤ 8 * j + 8 by omega)]
      have e : k + 1 - 8 * j = (k - 8 * j) + 1 := by omega
      rw [e, pn_first 8 (fun i => f (k + 1 - 1 - i)) (k - 8 * j)]
      have e2 : (fun i => f (k + 1 - 1 - i)) 0 = f k := by simp
      have e3 : sh (fun i => f (k + 1 - 1 - i)) 1 = fun i => f (k - 1 - i) := by funext i; unfold sh; simp only; congr 1; omega
      rw [e3, show k - 8 * j = k % 8 by omega]
      show _ = f (k + 1 - 1 - 0) * _ + _
      rw [show k + 1 - 1 - 0 = k by omega]
      by_cases c2 : k ≤ 8 * j
      · rw [if_pos c2, show k % 8 = 0 by omega]
        simp [pn]
      · rw [if_neg c2, if_pos (show k ≤ 8 * j + 8 by omega), Int.add_comm]
    · rw [if_neg c, hi]
      by_cases c2 : k + 1 ≤ 8 * j
      · rw [if_pos c2, if_pos (by omega)]
      · rw [if_neg c2]
        by_cases c3 : k ≤ 8 * j
        · omega
        · rw [if_neg c3, if_neg (show ¬ k + 1 ≤ 8 * j + 8 by omega)]
          by_cases c4 : k ≤ 8 * j + 8
          · have ek : k = 8 * j + 8 := by omega
            rw [if_pos c4, ek, show 8 * j + 8 - 8 * j = 8 by omega]
            rfl
          · rw [if_neg c4]
theorem pl_lim (f : Nat → Int) (hf : ∀ i, 0 ≤ f i ∧ f i < 2 ^ 8) (j : Nat) (hj : j < 4) : pl f 32 j = lim (pn 8 (fun i => f (31 - i)) 32) j := by
  have h := pb_lim 8 8 (fun i => f (31 - i)) (by omega) (by omega) (fun i => hf _) j hj
  rw [show (4 * 8 : Nat) = 32 from rfl] at h
  have e : j = 0 ∨ j = 1 ∨ j = 2 ∨ j = 3 := by omega
  rw [← h, pb_is 8 8 _ (by omega) 32 j hj (by omega), pl_is]
  rcases e with rfl | rfl | rfl | rfl <;> rfl
theorem pl_bd (f : Nat → Int) (hf : ∀ i, 0 ≤ f i ∧ f i < 2 ^ 8) (k : Nat) : 0 ≤ pl f k (k / 8) ∧ pl f k (k / 8) < 2 ^ (8 * (k % 8)) := by
  rw [pl_is]
  by_cases c : k ≤ 8 * (k / 8)
  · rw [if_pos c]; exact ⟨Int.le_refl _, Int.pow_pos (by omega)⟩
  · rw [if_neg c, if_pos (show k ≤ 8 * (k / 8) + 8 by omega), show k - 8 * (k / 8) = k % 8 by omega]
    exact ⟨pn_nn 8 _ (fun i => (hf _).1) _, pn_lt 8 _ (fun i => hf _) _⟩
theorem or_up (x d : Int) (r : Nat) (hr : r < 8) (x0 : 0 ≤ x) (x1 : x < 2 ^ (8 * r)) (d0 : 0 ≤ d) (d1 : d < 256) :
    bits .or .u64 x (IntKind.u64.wrap (d * 2 ^ (8 * r))) = x + d * 2 ^ (8 * r) := by
  by_cases c : r = 0
  · subst c
    have hx : x = 0 := by simp at x1; omega
    subst hx
    have w : IntKind.u64.wrap (d * 2 ^ (8 * 0)) = d := by rw [IntKind.wrap_u64]; simp; omega
    rw [w]
    have b := bits_or_u64_nat 0 d.toNat (by omega) (by omega)
    rw [Int.toNat_of_nonneg d0] at b
    have e : bits .or .u64 0 d = d := by
      have : ((0 : Nat) : Int) = 0 := rfl
      rw [← this, b]
      simp; omega
    rw [e]; simp
  · have p : (0 : Int) < 2 ^ (64 - 8 * r) := Int.pow_pos (by omega)
    have sp : (2 : Int) ^ (8 * r) * 2 ^ (64 - 8 * r) = 18446744073709551616 := pow_split (8 * r) (by omega)
    have h0 : 0 ≤ x * 2 ^ (64 - 8 * r) := Int.mul_nonneg x0 (Int.le_of_lt p)
    have h1 : x * 2 ^ (64 - 8 * r) < 18446744073709551616 := by rw [← sp]; exact Int.mul_lt_mul_of_pos_right x1 p
    have j := or_join (x * 2 ^ (64 - 8 * r)) d (64 - 8 * r) (by omega) h0 h1 d0
    rw [Int.mul_ediv_cancel _ (Int.ne_of_gt p), show 64 - (64 - 8 * r) = 8 * r by omega] at j
    have hd : d % 2 ^ (64 - 8 * r) = d := by
      refine Int.emod_eq_of_lt d0 ?_
      have : (2 : Nat) ^ 8 ≤ 2 ^ (64 - 8 * r) := Nat.pow_le_pow_right (by omega) (by omega)
      have q : ((2 ^ 8 : Nat) : Int) ≤ ((2 ^ (64 - 8 * r) : Nat) : Int) := Int.ofNat_le.2 this
      have e1 : ((2 ^ 8 : Nat) : Int) = 256 := rfl
      have e2 : ((2 ^ (64 - 8 * r) : Nat) : Int) = 2 ^ (64 - 8 * r) := by push_cast; rfl
      omega
    rw [hd] at j
    exact j
set_option maxRecDepth 100000 in
set_option maxHeartbeats 4000000 in
theorem refFromLittle_ok (s : ByteArray) (hs : s.size = 32) (w : World) :
    Calls Tryz.prog 126 #[.string s] w fun e w' => e = .returned (.tuple #[.agg #[.int .u64 (pl (bt s) 32 0), .int .u64 (pl (bt s) 32 1), .int .u64 (pl (bt s) 32 2), .int .u64 (pl (bt s) 32 3)], .int .i64 0]) ∧ Below w.heap.size w w' := by
  have LE := fun W => sized_any s 32 (by rw [hs]; decide) W
  have le0 : lenE (s.size : Int) 32 = 0 := by rw [hs]; decide
  rw [le0] at LE
  go_enter Tryz.func126, Tryz.ntmps126
  go_wp2_with (go_at_call 134; refine (LE _).mono ?_; rintro e w1 ⟨rfl, rfl⟩)
  go_loopw [6] (fun i wr => ∃ k : Nat, k ≤ 32 ∧ i = .int .i64 k ∧ Below w.heap.size w wr ∧ Arr wr w.heap.size 4 (fun _ => .int .u64 0) ∧ Arr wr (w.heap.size + 1) 4 (fun j => .int .u64 (pl (bt s) k j)))
    (fun i _ => 32 - (intOf i).toNat)
  case atStart => exact ⟨0, by omega, rfl, by go_grown, Arr.mk4 (by simp [go_sem]) (by simp [go_sem]) (by simp [go_sem]) (by simp [go_sem]) (by simp [go_sem]) (by simp [go_sem]) (by simp [go_sem]) (by simp [go_sem]), Arr.mk4 (by simp [go_sem, pl]) (by simp [go_sem, pl]) (by simp [go_sem, pl]) (by simp [go_sem, pl]) (by simp [go_sem]) (by simp [go_sem]) (by simp [go_sem]) (by simp [go_sem])⟩
  case round =>
    clear LE le0
    obtain ⟨k, hk, rfl, hB, hZ, hA⟩ := hrel
    by_cases hlt : k < 32
    · have k0 : (0 : Int) ≤ (k : Int) := by omega
      have k32 : (k : Int) < 32 := by omega
      obtain ⟨q, r, hq, hr, qe, re⟩ : ∃ q r : Nat, (k : Int) / 8 = (q : Int) ∧ (k : Int) % 8 = (r : Int) ∧ q = k / 8 ∧ r = k % 8 := ⟨k / 8, k % 8, by omega, by omega, rfl, rfl⟩
      have q0 : (0 : Int) ≤ (q : Int) := by omega
      have q4 : (q : Int) < 4 := by omega
      have r0 : (0 : Int) ≤ (r : Int) := by omega
      have r8 : (r : Int) < 8 := by omega
      have bb := bt_bd s k
      have I := fun W => idxS s k (by omega) W
      have pbd := pl_bd (bt s) (bt_8 s) k
      rw [← qe, ← re] at pbd
      have ou := or_up (pl (bt s) k q) (bt s k) r (by omega) pbd.1 pbd.2 bb.1 bb.2
      have ra := hA.c q (by omega)
      have za := hA.z q (by omega)
      have tn : (8 * (r : Int)).toNat = 8 * r := by omega
      have st : Arr ((wr.setCell ⟨w.heap.size + 1, q, none⟩ (.int .u64 (pl (bt s) k q + bt s k * 2 ^ (8 * r)))).drew) (w.heap.size + 1) 4 (fun j => .int .u64 (pl (bt s) (k + 1) j)) := by
        refine ((hA.set q (by omega) _).congr ?_).drew
        intro j hj
        show _ = Value.int .u64 (if j = k / 8 then pl (bt s) k j + bt s k * 2 ^ (8 * (k % 8)) else pl (bt s) k j)
        by_cases h : j = q
        · subst h; rw [if_pos rfl, if_pos qe, re]
        · rw [if_neg h, if_neg (by omega)]
      have sz : Arr ((wr.setCell ⟨w.heap.size + 1, q, none⟩ (.int .u64 (pl (bt s) k q + bt s k * 2 ^ (8 * r)))).drew) w.heap.size 4 (fun _ => .int .u64 0) := (hZ.other (by omega) _).drew
      have sB : Below w.heap.size w ((wr.setCell ⟨w.heap.size + 1, q, none⟩ (.int .u64 (pl (bt s) k q + bt s k * 2 ^ (8 * r)))).drew) := (hB.setCell (by show _ ≤ w.heap.size + 1; omega) _).drew
      clear qe re pbd hA hZ hB
      go_wp2_with fail
      go_region
      go_wp2_with fail
      exact ⟨⟨k + 1, by omega, by go_num, sB, sz, st⟩, by simp [intOf]; omega⟩
    · have e32 : k = 32 := by omega
      subst e32
      have r1 := hA.c
      have r0 := hZ.c
      have z0 := hZ.z
      clear hA hZ
      go_wp2_with fail
      refine bodyPost_ret (v := .tuple #[.agg #[.int .u64 (pl (bt s) 32 0), .int .u64 (pl (bt s) 32 1), .int .u64 (pl (bt s) 32 2), .int .u64 (pl (bt s) 32 3)], .int .i64 0]) (by simp [results, Tryz.results126, go_sem, r0]) rfl ⟨rfl, ?_⟩
      go_grown
theorem nv_pl (f : Nat → Int) (hf : ∀ i, 0 ≤ f i ∧ f i < 2 ^ 8) :
    (.agg #[.int .u64 (pl f 32 0), .int .u64 (pl f 32 1), .int .u64 (pl f 32 2), .int .u64 (pl f 32 3)] : Value) = nv (pn 8 (fun i => f (31 - i)) 32) := by
  simp only [nv, pl_lim f hf 0 (by omega), pl_lim f hf 1 (by omega), pl_lim f hf 2 (by omega), pl_lim f hf 3 (by omega)]
theorem refFromLittle_yes (s : ByteArray) (hs : s.size = 32) (w : World) :
    Calls Tryz.prog 126 #[.string s] w fun e w' => e = .returned (.tuple #[nv (pn 8 (fun i => bt s (31 - i)) 32), .int .i64 0]) ∧ Below w.heap.size w w' := by
  have := refFromLittle_ok s hs w
  rw [nv_pl (bt s) (bt_8 s)] at this
  exact this
set_option maxHeartbeats 1000000 in
theorem refFromBig_core (s : ByteArray) (T : ByteArray) (V : Value) (E : Int) (a0 a1 a2 a3 : Int) (hV : V = .agg #[.int .u64 a0, .int .u64 a1, .int .u64 a2, .int .u64 a3])
    (C40 : ∀ W, Calls Tryz.prog 124 #[.string s] W fun e w' => e = .returned (.string T) ∧ Below W.heap.size W w')
    (C13 : ∀ W, Calls Tryz.prog 126 #[.string T] W fun e w' => e = .returned (.tuple #[.agg #[.int .u64 a0, .int .u64 a1, .int .u64 a2, .int .u64 a3], .int .i64 E]) ∧ Below W.heap.size W w') (w : World) :
    Calls Tryz.prog 114 #[.string s] w fun e w' => e = .returned (.tuple #[.agg #[.int .u64 a0, .int .u64 a1, .int .u64 a2, .int .u64 a3], .int .i64 E]) ∧ Below w.heap.size w w' := by
  go_enter Tryz.func114, Tryz.ntmps114
  go_wp2_with fail
  refine (C40 _).mono ?_
  rintro e w1 ⟨rfl, hb1⟩
  have A1 := (Arr.mk4 (f := fun _ => .int .u64 0) (b := w.heap.size) (by simp [go_sem]) (by simp [go_sem]) (by simp [go_sem]) (by simp [go_sem]) (by simp [go_sem]) (by simp [go_sem]) (by simp [go_sem]) (by simp [go_sem])).below hb1 (by go_size)
  have s1 : w.heap.size < w1.heap.size := by have := hb1.size; simp at this; omega
  have hB1 : Below w.heap.size w w1 := Below.trans (by go_grown) (hb1.mono (by go_size))
  clear hb1
  go_wp2_with fail
  refine (C13 _).mono ?_
  rintro e w2 ⟨rfl, hb2⟩
  have A2 := A1.below hb2 s1
  have hB2 := hB1.trans (hb2.mono hB1.size)
  have r0 := A2.c
  have z0 := A2.z
  clear hb2 A1 A2 hB1
  go_wp2_with fail
  refine bodyPost_ret (v := .tuple #[.agg #[.int .u64 a0, .int .u64 a1, .int .u64 a2, .int .u64 a3], .int .i64 E]) (by simp [results, Tryz.results114, go_sem, r0]) rfl ⟨rfl, ?_⟩
  go_grown
theorem rv_size (s : ByteArray) : (mkS (rvL s)).size = s.size := by rw [mkS_size]; simp [rvL]
theorem refFromBig_yes (s : ByteArray) (hs : s.size = 32) (w : World) :
    Calls Tryz.prog 114 #[.string s] w fun e w' => e = .returned (.tuple #[nv (pn 8 (bt s) 32), .int .i64 0]) ∧ Below w.heap.size w w' := by
  refine refFromBig_core s (mkS (rvL s)) _ 0 _ _ _ _ rfl (fun W => turned_any s (by rw [hs]; omega) W) (fun W => ?_) w
  have := refFromLittle_yes (mkS (rvL s)) (by rw [rv_size]; exact hs) W
  have e : pn 8 (fun i => bt (mkS (rvL s)) (31 - i)) 32 = pn 8 (bt s) 32 := pn_congr 8 _ _ 32 fun i hi => by
    have b := bt_bd s (s.size - 1 - (31 - i))
    show bt (mkS (rvL s)) (31 - i) = bt s i
    rw [mkS_bt _ (31 - i) _ (rvL_at s (31 - i) (by omega)) b.1 b.2, hs]
    congr 1; omega
  rw [e] at this
  exact this
end Go.Proofs.YtjdpeedghpblgaaGreatDoor
/- The reference of layer 14: vectors, what is taken off, names. -/
set_option linter.all false
set_option maxRecDepth 100000
namespace Go.Proofs.YtjdpeedghpblgaaGreatDoor
open Go.RowKit Go.Sort
/-- The digits from one place on, the others 0. -/
def dgF (k : Nat) (n : Int) (j : Nat) : Int := n / 256 ^ (k - 1 - j) % 256
theorem dgL_at (k : Nat) : ∀ (n : Int) (j : Nat), j < k → (dgL k n).getD j 0 = dgF k n j := by
  induction k with
  | zero => intro n j h; exact absurd h (Nat.not_lt_zero _)
  | succ k ih =>
    intro n j h
    rw [dgL]
    by_cases c : j < k
    · have e : k + 1 - 1 - j = (k - 1 - j) + 1 := by omega
      rw [List.getD_eq_getElem?_getD, List.getElem?_append_left (by rw [dgL_len]; exact c), ← List.getD_eq_getElem?_getD, ih _ _ c]
      unfold dgF
      rw [e, Int.pow_succ, Int.mul_comm, Int.ediv_ediv_of_nonneg (by decide)]
    · have e : j = k := by omega
      subst e
      rw [List.getD_eq_getElem?_getD, List.getElem?_append_right (by rw [dgL_len]; omega), dgL_len]
      unfold dgF
      simp
set_option maxHeartbeats 4000000 in
theorem rvector_core (s : ByteArray) (k n : Nat) (hk : k ≤ 3) (hsn : s.size = n) (hn : (n : Int) ≤ 281474976710656) (C : Array Value) (hC : Hid (∀ j, j < k → C[j]? = some (.int .u8 0))) (mk : ∀ W : World, (Instr.makeSlice 61 (.int .i64 (k : Int)) (.int .i64 (k : Int))).run Tryz.prog W = .ok (.slice (some ⟨W.heap.size, 0, none⟩) k k) (W.alloc (.cells C 5))) (w : World) :
    Calls Tryz.prog 24 #[.int .i64 (k : Int), .string s] w fun e w' => e = .returned (.string (vec k s)) ∧ Below w.heap.size w w' := by
  have HV : Hid (vec k s = mkS (dgL k n) ++ s) := by show _ = _; unfold vec; rw [hsn]
  have HL : Hid (∀ j, j < k → (dgL k n).getD j 0 = dgF k n j) := fun j hj => dgL_at k n j hj
  have HZ : Hid ((dgL k n).length = k) := dgL_len k n
  have HD : Hid (∀ j, j < k → dgF k n j = (n : Int) / 256 ^ (k - 1 - j) % 256) := fun j _ => rfl
  have z8 : ((mkS (dgL k n)).size : Int) = k := by rw [mkS_size, dgL_len]
  have n9 : (s.size : Int) ≤ 281474976710656 := by omega
  have szn : (s.size : Int) = (n : Int) := by omega
  have k3 : (k : Int) ≤ 3 := by omega
  have k0 : (0 : Int) ≤ (k : Int) := by omega
  generalize hG : dgF k n = g at *
  generalize hT : mkS (dgL k n) = T at *
  have HT : Hid (mkS (dgL k n) = T) := hT
  clear hT hG
  go_enter Tryz.func24, Tryz.ntmps24
  go_wp2_with fail
  go_loopw [7, 6] (fun i m wr => ∃ j : Nat, j ≤ k ∧ i = .int .i64 ((j : Int) - 1) ∧ m = .int .i64 ((n : Int) / 256 ^ (k - j)) ∧ Below w.heap.size w wr ∧ Arr wr w.heap.size k (fun x => .int .u8 (if j ≤ x then g x else 0)))
    (fun i _ _ => ((intOf i) + 1).toNat)
  case atStart =>
    refine ⟨k, by omega, rfl, by simp, by go_grown, ?_⟩
    exact (Arr.new _ _ _ _ (by simp) _ k hC.out).congr (by intro j hj; rw [if_neg (by omega)])
  case round =>
    clear mk hC
    obtain ⟨j, hj, rfl, rfl, hB, hA⟩ := hrel
    by_cases hlt : j = 0
    · subst hlt
      have cv := convG wr w.heap.size k (dgL k n) HZ.out (by intro x hx; rw [hA.c x hx, if_pos (by omega), HL.out x hx])
      rw [HT.out] at cv
      clear hA
      go_wp2_with fail
      go_ret
      exact ⟨by rw [HV.out]; rfl, hB⟩
    · obtain ⟨q, rfl⟩ : ∃ q, j = q + 1 := ⟨j - 1, by omega⟩
      have q0 : (0 : Int) ≤ (q : Int) := by omega
      have qn : (q : Int) < (k : Int) := by omega
      have e1 : ((q + 1 : Nat) : Int) - 1 = (q : Int) := by omega
      rw [e1]
      have hd := HD.out q (by omega)
      have p1 : k - (q + 1) = k - 1 - q := by omega
      have p2 : (n : Int) / 256 ^ (k - q) = (n : Int) / 256 ^ (k - (q + 1)) / 256 := by
        rw [show k - q = (k - (q + 1)) + 1 by omega, Int.pow_succ, Int.ediv_ediv_of_nonneg (Int.pow_nonneg (by decide))]
      rw [← p1] at hd
      have m0 : 0 ≤ (n : Int) / 256 ^ (k - (q + 1)) := Int.ediv_nonneg (by omega) (Int.pow_nonneg (by decide))
      have m1 : (n : Int) / 256 ^ (k - (q + 1)) ≤ 281474976710656 := Int.le_trans (Int.ediv_le_self _ (by omega)) hn
      have ra := hA.c q (by omega)
      have za := hA.z q (by omega)
      have HP : Hid (∀ x, x = (n : Int) / 256 ^ (k - (q + 1)) → (n : Int) / 256 ^ (k - q) = x / 256) := fun x hx => by rw [p2, hx]
      have HX : Hid ((n : Int) / 256 ^ (k - (q + 1)) = (n : Int) / 256 ^ (k - (q + 1))) := rfl
      generalize hm : (n : Int) / 256 ^ (k - (q + 1)) = m at *
      have HM : Hid (m = (n : Int) / 256 ^ (k - (q + 1))) := hm.symm
      clear hm p2 HX
      have st : Arr (wr.setCell ⟨w.heap.size, q, none⟩ (.int .u8 (m % 256))) w.heap.size k (fun x => .int .u8 (if q ≤ x then g x else 0)) := by
        refine (hA.set q (by omega) _).congr ?_
        intro x hx
        by_cases h : x = q
        · subst h; rw [if_pos rfl, if_pos (by omega), hd]
        · rw [if_neg h]
          by_cases h2 : q + 1 ≤ x
          · rw [if_pos h2, if_pos (by omega)]
          · rw [if_neg h2, if_neg (by omega)]
      have sB : Below w.heap.size w (wr.setCell ⟨w.heap.size, q, none⟩ (.int .u8 (m % 256))) := hB.setCell (by show _ ≤ w.heap.size; omega) _
      clear hA hB hd
      go_wp2_with fail
      exact ⟨⟨q, by omega, by go_num, by rw [HP.out m rfl], sB, st⟩, by simp [intOf]⟩
theorem rvector_any (k : Nat) (s : ByteArray) (hk : k ≤ 3) (hn : (s.size : Int) ≤ 281474976710656) (w : World) :
    Calls Tryz.prog 24 #[.int .i64 (k : Int), .string s] w fun e w' => e = .returned (.string (vec k s)) ∧ Below w.heap.size w w' := by
  obtain ⟨C, hC, mk⟩ := madeN k (by omega)
  exact rvector_core s k s.size hk rfl hn C hC mk w
/-- Kinds. -/
def kdB (k : Int) : Bool := k == 1 || k == 2 || k == 8 || k == 11 || k == 15 || k == 20
theorem rknown_any (k : Int) (w : World) : Calls Tryz.prog 28 #[.int .i64 k] w fun e w' => e = .returned (.bool (kdB k)) ∧ w' = w := by
  by_cases h1 : k = 1
  · subst h1; go_enter Tryz.func28, Tryz.ntmps28; go_wp2; go_ret; exact ⟨rfl, rfl⟩
  by_cases h2 : k = 2
  · subst h2; go_enter Tryz.func28, Tryz.ntmps28; go_wp2; go_ret; exact ⟨rfl, rfl⟩
  by_cases h3 : k = 8
  · subst h3; go_enter Tryz.func28, Tryz.ntmps28; go_wp2; go_ret; exact ⟨rfl, rfl⟩
  by_cases h4 : k = 11
  · subst h4; go_enter Tryz.func28, Tryz.ntmps28; go_wp2; go_ret; exact ⟨rfl, rfl⟩
  by_cases h5 : k = 15
  · subst h5; go_enter Tryz.func28, Tryz.ntmps28; go_wp2; go_ret; exact ⟨rfl, rfl⟩
  by_cases h6 : k = 20
  · subst h6; go_enter Tryz.func28, Tryz.ntmps28; go_wp2; go_ret; exact ⟨rfl, rfl⟩
  go_enter Tryz.func28, Tryz.ntmps28
  go_wp2
  go_ret
  exact ⟨rfl, rfl⟩
theorem rfirst_any (s : ByteArray) (n : Nat) (hn : n ≤ 1000000) (w : World) : Calls Tryz.prog 58 #[.string s, .int .i64 (n : Int)] w fun e w' => e = .returned (.string (fs s n)) ∧ Below w.heap.size w w' := by
  unfold fs
  have n0 : (0 : Int) ≤ (n : Int) := by omega
  by_cases h : s.size < n
  · have h' : (s.size : Int) < (n : Int) := by omega
    rw [if_pos h]
    go_enter Tryz.func58, Tryz.ntmps58
    go_wp2
    go_ret
    exact ⟨rfl, Below.refl _ _⟩
  · have h' : ¬ (s.size : Int) < (n : Int) := by omega
    rw [if_neg h]
    have S := fun W => run_slice_string_h (P := Tryz.prog) W 9 s Tryz.underlying9 .i64 (n : Int) (by omega) (by omega)
    rw [Int.toNat_natCast] at S
    generalize s.extract 0 n = X at *
    go_enter Tryz.func58, Tryz.ntmps58
    go_wp2
    go_ret
    exact ⟨rfl, Below.refl _ _⟩
theorem rbehind_any (s : ByteArray) (n : Nat) (hn : n ≤ 1000000) (w : World) : Calls Tryz.prog 59 #[.string s, .int .i64 (n : Int)] w fun e w' => e = .returned (.string (bh s n)) ∧ Below w.heap.size w w' := by
  unfold bh
  have n0 : (0 : Int) ≤ (n : Int) := by omega
  by_cases h : s.size < n
  · have h' : (s.size : Int) < (n : Int) := by omega
    rw [if_pos h]
    go_enter Tryz.func59, Tryz.ntmps59
    go_wp2
    go_ret
    exact ⟨rfl, Below.refl _ _⟩
  · have h' : ¬ (s.size : Int) < (n : Int) := by omega
    rw [if_neg h]
    have S := fun W => run_slice_string_l (P := Tryz.prog) W 9 s Tryz.underlying9 .i64 (n : Int) (by omega) (by omega)
    rw [Int.toNat_natCast] at S
    generalize s.extract n s.size = X at *
    go_enter Tryz.func59, Tryz.ntmps59
    go_wp2
    go_ret
    exact ⟨rfl, Below.refl _ _⟩
end Go.Proofs.YtjdpeedghpblgaaGreatDoor
/- The reference of layer 14: what is taken off; names of protocols, and of hosts. -/
set_option linter.all false
set_option maxRecDepth 100000
namespace Go.Proofs.YtjdpeedghpblgaaGreatDoor
open Go.RowKit Go.Sort
set_option maxHeartbeats 2000000 in
theorem rtaken_core (k : Nat) (s A R : ByteArray) (hk : k ≤ 3) (hz : (s.size : Int) ≤ 281474976710656) (w : World)
    (h0 : s.size < k → A = nS ∧ R = nS)
    (h1 : k ≤ s.size → (s.size : Int) - k < nB s k → A = nS ∧ R = nS)
    (h2 : ∀ m : Nat, nB s k = m → k + m ≤ s.size → A = s.extract k (k + m) ∧ R = s.extract (k + m) s.size) :
    Calls Tryz.prog 60 #[.int .i64 (k : Int), .string s] w fun e w' => e = .returned (.tuple #[.string A, .string R]) ∧ Below w.heap.size w w' := by
  have k0 : (0 : Int) ≤ (k : Int) := by omega
  have k3 : (k : Int) ≤ 3 := by omega
  by_cases c : s.size < k
  · obtain ⟨rfl, rfl⟩ := h0 c
    have c' : (s.size : Int) < (k : Int) := by omega
    go_enter Tryz.func60, Tryz.ntmps60
    go_wp2
    refine bodyPost_ret (v := .tuple #[.string nS, .string nS]) (by simp [results, Tryz.results60, go_sem]) rfl ⟨rfl, Below.refl _ _⟩
  · have c' : ¬ (s.size : Int) < (k : Int) := by omega
    have HB : Hid (∀ j, 0 ≤ nB s j ∧ nB s j < 256 ^ j) := fun j => nB_bd s j
    have HN : Hid (∀ j, nB s (j + 1) = nB s j * 256 + bt s j) := fun j => rfl
    have HZ : Hid (nB s 0 = 0) := rfl
    have H1 : Hid _ := h1
    have H2 : Hid _ := h2
    clear h0 h1 h2
    go_enter Tryz.func60, Tryz.ntmps60
    go_wp2
    go_loopw [7, 6] (fun i m wr => ∃ j : Nat, j ≤ k ∧ i = .int .i64 (j : Int) ∧ m = .int .i64 (nB s j) ∧ wr = w) (fun i _ _ => k - (intOf i).toNat)
    case atStart => exact ⟨0, by omega, rfl, rfl, rfl⟩
    case round =>
      obtain ⟨j, hj, rfl, rfl, rfl⟩ := hrel
      have j0 : (0 : Int) ≤ (j : Int) := by omega
      by_cases hlt : j < k
      · have j1 : (j : Int) < (k : Int) := by omega
        have I := fun W => idxS s j (by omega) W
        have b := bt_bd s j
        have hn := HB.out j
        have p : (256 : Int) ^ j ≤ 65536 := by
          have : j = 0 ∨ j = 1 ∨ j = 2 := by omega
          rcases this with rfl | rfl | rfl <;> decide
        have n1 : nB s j < 65536 := by omega
        have n0 := hn.1
        have HX : Hid (nB s (j + 1) = nB s j * 256 + bt s j) := HN.out j
        clear hn p
        generalize nB s j = x at *
        generalize bt s j = y at *
        obtain ⟨y0, y1⟩ := b
        go_wp2_with fail
        exact ⟨⟨j + 1, by omega, by go_num, by rw [HX.out], by trivial⟩, by simp [intOf]; omega⟩
      · have e : j = k := by omega
        subst e
        have hn := HB.out j
        have p : (256 : Int) ^ j ≤ 16777216 := by
          have : j = 0 ∨ j = 1 ∨ j = 2 ∨ j = 3 := by omega
          rcases this with rfl | rfl | rfl | rfl <;> decide
        obtain ⟨m, hm⟩ : ∃ m : Nat, nB s j = m := ⟨(nB s j).toNat, by omega⟩
        have H1' := H1.out (by omega)
        have H2' := H2.out m hm
        have m1 : (m : Int) < 16777216 := by omega
        have m0 : (0 : Int) ≤ (m : Int) := by omega
        rw [hm] at H1' ⊢
        clear hn p H1 H2 HB HN HZ hm
        by_cases d : (s.size : Int) - j < m
        · obtain ⟨rfl, rfl⟩ := H1' d
          clear H2' H1'
          go_wp2_with fail
          refine bodyPost_ret (v := .tuple #[.string nS, .string nS]) (by simp [results, Tryz.results60, go_sem]) rfl ⟨rfl, Below.refl _ _⟩
        · obtain ⟨eA, eR⟩ := H2' (by omega)
          clear H2' H1'
          have S1 := fun W => run_slice_string (P := Tryz.prog) (w := W) 9 s .i64 .i64 (j : Int) ((j : Int) + (m : Int)) Tryz.underlying9 (by omega) (by omega) (by omega)
          have S2 := fun W => run_slice_string_l (P := Tryz.prog) W 9 s Tryz.underlying9 .i64 ((j : Int) + (m : Int)) (by omega) (by omega)
          rw [show ((j : Int) + (m : Int)).toNat = j + m by omega] at S1 S2
          rw [Int.toNat_natCast] at S1
          rw [← eA] at S1
          rw [← eR] at S2
          clear eA eR
          go_wp2_with fail
          refine wp_region_quiet_below (by kernel_rfl) (by kernel_rfl) ?_
          repeat (go_big_quiet_step (fail))
          refine wpQuiet_nil ?_
          intro w3 hw'
          obtain ⟨⟨dq, osq⟩, hw''⟩ := hw'
          have hb := below_of hw''
          clear hw''
          go_wp2_with fail
          refine bodyPost_ret (v := .tuple #[.string A, .string R]) (by simp [results, Tryz.results60, go_sem]) rfl ⟨rfl, hb⟩
theorem rtaken_any (k : Nat) (s : ByteArray) (hk : k ≤ 3) (hz : (s.size : Int) ≤ 281474976710656) (w : World) :
    Calls Tryz.prog 60 #[.int .i64 (k : Int), .string s] w fun e w' => e = .returned (.tuple #[.string (tkA k s), .string (tkR k s)]) ∧ Below w.heap.size w w' := by
  have bd := nB_bd s k
  refine rtaken_core k s _ _ hk hz w (fun h => ?_) (fun h1 h2 => ?_) (fun m hm h => ?_)
  · have : ¬ tkB k s = true := by unfold tkB; simp; omega
    unfold tkA tkR; rw [if_neg this, if_neg this]; exact ⟨rfl, rfl⟩
  · have : ¬ tkB k s = true := by unfold tkB; simp; omega
    unfold tkA tkR; rw [if_neg this, if_neg this]; exact ⟨rfl, rfl⟩
  · have : tkB k s = true := by unfold tkB; simp; omega
    unfold tkA tkR; rw [if_pos this, if_pos this, hm, Int.toNat_natCast]; exact ⟨rfl, rfl⟩
theorem tk_size (k : Nat) (s : ByteArray) : (tkA k s).size ≤ s.size ∧ (tkR k s).size ≤ s.size := by
  unfold tkA tkR
  constructor
  · split
    · rw [ByteArray.size_extract]; omega
    · exact Nat.zero_le _
  · split
    · rw [ByteArray.size_extract]; omega
    · exact Nat.zero_le _
theorem bh_size (s : ByteArray) (n : Nat) : (bh s n).size ≤ s.size := by
  unfold bh
  split
  · exact Nat.zero_le _
  · rw [ByteArray.size_extract]; omega
theorem ralpn_any (s : ByteArray) (hz : (s.size : Int) ≤ 1000000000) (w : World) :
    Calls Tryz.prog 52 #[.string s] w fun e w' => e = .returned (.string (alS s)) ∧ Below w.heap.size w w' := by
  have C1 := fun W => rvector_any 1 s (by omega) (by omega) W
  have z1 := vec_size 1 s
  have C2 := fun W => rvector_any 2 (vec 1 s) (by omega) (by omega) W
  have z2 := vec_size 2 (vec 1 s)
  have C3 := fun W => rvector_any 2 (vec 2 (vec 1 s)) (by omega) (by omega) W
  have z3 := vec_size 2 (vec 2 (vec 1 s))
  have HE : Hid (alS s = ⟨#[0, 16]⟩ ++ vec 2 (vec 2 (vec 1 s))) := rfl
  have z4 : ((vec 2 (vec 2 (vec 1 s))).size : Int) ≤ 1000000100 := by omega
  clear z1 z2 z3
  generalize alS s = T at *
  generalize vec 2 (vec 2 (vec 1 s)) = X3 at *
  generalize vec 2 (vec 1 s) = X2 at *
  generalize vec 1 s = X1 at *
  rw [show ((1 : Nat) : Int) = 1 from rfl] at C1
  rw [show ((2 : Nat) : Int) = 2 from rfl] at C2 C3
  go_enter Tryz.func52, Tryz.ntmps52
  go_wp2_with fail
  refine (C1 _).mono ?_
  rintro e w1 ⟨rfl, b1⟩
  go_wp2_with fail
  refine (C2 _).mono ?_
  rintro e w2 ⟨rfl, b2⟩
  go_wp2_with fail
  refine (C3 _).mono ?_
  rintro e w3 ⟨rfl, b3⟩
  go_wp2_with fail
  go_ret
  exact ⟨by rw [HE.out]; rfl, Bel.call (Bel.call b1 b2) b3⟩
theorem ralpnOf_any (s : ByteArray) (hz : (s.size : Int) ≤ 1000000000) (w : World) :
    Calls Tryz.prog 61 #[.string s] w fun e w' => e = .returned (.string (alO s)) ∧ Below w.heap.size w w' := by
  have C0 := fun W => rbehind_any s 2 (by omega) W
  have z0 := bh_size s 2
  have C1 := fun W => rtaken_any 2 (bh s 2) (by omega) (by omega) W
  have z1 := tk_size 2 (bh s 2)
  have C2 := fun W => rtaken_any 2 (tkA 2 (bh s 2)) (by omega) (by omega) W
  have z2 := tk_size 2 (tkA 2 (bh s 2))
  have C3 := fun W => rtaken_any 1 (tkA 2 (tkA 2 (bh s 2))) (by omega) (by omega) W
  have HE : Hid (alO s = tkA 1 (tkA 2 (tkA 2 (bh s 2)))) := rfl
  clear z0 z1 z2
  generalize alO s = T at *
  generalize tkA 1 (tkA 2 (tkA 2 (bh s 2))) = X3 at *
  generalize tkR 1 (tkA 2 (tkA 2 (bh s 2))) = Y3 at *
  generalize tkA 2 (tkA 2 (bh s 2)) = X2 at *
  generalize tkR 2 (tkA 2 (bh s 2)) = Y2 at *
  generalize tkA 2 (bh s 2) = X1 at *
  generalize tkR 2 (bh s 2) = Y1 at *
  generalize bh s 2 = X0 at *
  rw [show ((1 : Nat) : Int) = 1 from rfl] at C3
  rw [show ((2 : Nat) : Int) = 2 from rfl] at C0 C1 C2
  go_enter Tryz.func61, Tryz.ntmps61
  go_wp2_with fail
  refine (C0 _).mono ?_
  rintro e w0 ⟨rfl, b0⟩
  go_wp2_with fail
  refine (C1 _).mono ?_
  rintro e w1 ⟨rfl, b1⟩
  go_wp2_with fail
  refine (C2 _).mono ?_
  rintro e w2 ⟨rfl, b2⟩
  go_wp2_with fail
  refine (C3 _).mono ?_
  rintro e w3 ⟨rfl, b3⟩
  go_wp2_with fail
  go_ret
  exact ⟨by rw [HE.out]; rfl, Bel.call (Bel.call (Bel.call b0 b1) b2) b3⟩
/-- A host's name. -/
def hoB (s : ByteArray) : Bool := decide (s.size ≠ 0 ∧ s.size ≤ 64 ∧ ∀ j, j < s.size → 33 ≤ bt s j ∧ bt s j ≤ 126)
end Go.Proofs.YtjdpeedghpblgaaGreatDoor
/- Values of many cells, their cells as one letter; messages. -/
set_option linter.all false
set_option maxRecDepth 100000
namespace Go.Proofs.YtjdpeedghpblgaaGreatDoor
open Go.RowKit Go.Sort
/-- A type of n cells by value. -/
structure Ty (T : TypeId) (n : Nat) : Prop where
  u : ∃ d, Tryz.prog.underlying T = some d ∧ d.isRow = true
  i : (Tryz.prog.info? T).map (·.size) = some n
/-- n cells, as a letter. -/
structure Cells (L : List Value) (n : Nat) (F : Nat → Value) : Prop where
  len : L.length = n
  at_ : ∀ j, j < n → L[j]? = some (F j)
  one : ∀ v ∈ L, v.oneCell' = true
theorem frozen_sets (w : World) (b : Nat) (a : Addr) : ∀ (vs : List Value) (o : Nat), (w.setCells b o vs).frozen? a = w.frozen? a := by
  intro vs
  induction vs generalizing w with
  | nil => intro o; rfl
  | cons v r ih => intro o; rw [World.setCells, ih, World.frozen?_setCell]
theorem cell_sets_other (w : World) (b b' j : Nat) (hne : b ≠ b') : ∀ (vs : List Value) (o : Nat), (w.setCells b o vs).cell? ⟨b', j, none⟩ = w.cell? ⟨b', j, none⟩ := by
  intro vs
  induction vs generalizing w with
  | nil => intro o; rfl
  | cons v r ih => intro o; rw [World.setCells, ih, World.cell?_setCell_other _ _ _ _ (by intro hh; injection hh with h1 _; exact hne h1)]
theorem Arr.sets {w : World} {b n : Nat} {f : Nat → Value} (h : Arr w b n f) (L : List Value) (hl : L.length = n) (g : Nat → Value) (hg : ∀ j, j < n → L[j]? = some (g j)) : Arr (w.setCells b 0 L) b n g :=
  Arr.of_range (World.rangeAt_setCells_same w _ 0 _ (by rw [hl]; exact h.there)) hg (fun j hj => by rw [frozen_sets]; exact h.z j hj)
theorem Arr.setso {w : World} {b b' n : Nat} {f : Nat → Value} (h : Arr w b n f) (hne : b' ≠ b) (L : List Value) (o : Nat) : Arr (w.setCells b' o L) b n f := fun j hj =>
  ⟨by rw [cell_sets_other w b' b j hne]; exact h.c j hj, by rw [frozen_sets]; exact h.z j hj⟩
theorem Arr.sub {w : World} {b N : Nat} {G : Nat → Value} (A : Arr w b N G) {L : List Value} {n : Nat} {F : Nat → Value} (c : Cells L n F) (o : Nat) (ho : o + n ≤ N) (e : ∀ j, j < n → G (o + j) = F j) : w.rangeAt b o L := fun j v hv => by
  have hj : j < n := by rw [← c.len]; exact (List.getElem?_eq_some_iff.1 hv).1
  rw [(A (o + j) (by omega)).1, e j hj, ← c.at_ j hj]
  exact hv
theorem Cells.ld {L : List Value} {n : Nat} {F : Nat → Value} (c : Cells L n F) {T : TypeId} (t : Ty T n) {w : World} {b N : Nat} {G : Nat → Value} (A : Arr w b N G) (o : Nat) (ho : o + n ≤ N) (e : ∀ j, j < n → G (o + j) = F j) :
    (loadVar T ⟨b, o, none⟩).run Tryz.prog w = .ok (.agg L.toArray) w := by
  obtain ⟨d, hu, hd⟩ := t.u
  exact run_loadVar_mid w b o T L d (A.sub c o ho e) hu hd (by rw [c.len]; exact t.i)
/-- A variable is loaded, in a plain region. -/
theorem Cells.wld {L : List Value} {n : Nat} {F : Nat → Value} (c : Cells L n F) {T : TypeId} (t : Ty T n) {w : World} {b N : Nat} {G : Nat → Value} (A : Arr w b N G) (o : Nat) (ho : o + n ≤ N) (e : ∀ j, j < n → G (o + j) = F j)
    {ops : Array Oper} {rest : List Oper} {op : Oper} {a : Act} {Q : Exit → Act → World → Prop} (hgd : op.guard = none) (x : Operand) (hop : op.op = .load T x) (hx : a.eval x = .pointer (some ⟨b, o, none⟩))
    (h : wpList Tryz.prog ops Q rest (a.put op.dst (.agg L.toArray)) w) : wpList Tryz.prog ops Q (op :: rest) a w := by
  obtain ⟨d, hu, hd⟩ := t.u
  exact wpList_load_mid hgd T x hop b o hx L d (A.sub c o ho e) hu hd (by rw [c.len]; exact t.i) h
/-- A value is stored, in a plain region. -/
theorem Cells.wst {L : List Value} {n : Nat} {F : Nat → Value} (c : Cells L n F) {T : TypeId} (t : Ty T n) {w : World} {b : Nat} {G : Nat → Value} (A : Arr w b n G)
    {ops : Array Oper} {rest : List Oper} {op : Oper} {a : Act} {Q : Exit → Act → World → Prop} (hgd : op.guard = none) (x y : Operand) (hop : op.op = .store T x y) (hx : a.eval x = .pointer (some ⟨b, 0, none⟩)) (hy : a.eval y = .agg L.toArray)
    (h : wpList Tryz.prog ops Q rest (a.put op.dst undef) (w.setCells b 0 L)) : wpList Tryz.prog ops Q (op :: rest) a w := by
  have hs : L.toArray.size = n := by rw [List.size_toArray]; exact c.len
  exact wpList_store_mid hgd T x y hop b 0 L.toArray hx hy (by rw [hs]; exact A.there) (by rw [hs]; exact t.i) (all_oneCell_toArray c.one) h
/-- A variable is loaded, in a region that draws its order. -/
theorem Cells.qld {L : List Value} {n : Nat} {F : Nat → Value} (c : Cells L n F) {T : TypeId} (t : Ty T n) {w : World} {b N : Nat} {G : Nat → Value} (A : Arr w b (N + 1) G) (o : Nat) (ho : o + n ≤ N + 1) (e : ∀ j, j < n → G (o + j) = F j)
    {C : World → Prop} (hC : ∀ W, C W → Below w.heap.size w W) {ops : Array Oper} {rest : List Oper} {op : Oper} {a : Act} {Q : Act → Prop} (hw : Region.wanted op (yielded ops a.tmps) = true) (x : Operand) (hop : op.op = .load T x) (hx : a.eval x = .pointer (some ⟨b, o, none⟩))
    (h : wpQuiet Tryz.prog ops C Q rest (a.put op.dst (.agg L.toArray))) : wpQuiet Tryz.prog ops C Q (op :: rest) a := by
  refine BigFrame.wpQuiet_want hw fun K hK => ⟨.agg L.toArray, fun W hW => ?_, hK _ h⟩
  unfold Oper.quietAt execOp
  simp only [hop, hx, Instr.loadAt, Instr.sureAddr, Sem.run_bind, Sem.run_pure, Result.andThen_ok, c.ld t (A.to' (hC W hW)) o ho e]
  exact ⟨rfl, rfl⟩
theorem Cells.set {L : List Value} {n : Nat} {F : Nat → Value} (c : Cells L n F) {w : World} {b : Nat} {G : Nat → Value} (A : Arr w b n G) : Arr (w.setCells b 0 L) b n F := A.sets L c.len _ c.at_
theorem Cells.new {L : List Value} {n : Nat} {F : Nat → Value} (c : Cells L n F) (w : World) (T : TypeId) (b : Nat) (hb : b = w.heap.size) : Arr (w.alloc (.cells L.toArray T)) b n F :=
  Arr.new w _ T b hb _ n (fun j hj => by rw [List.getElem?_toArray]; exact c.at_ j hj)
/-- An operation that yields a value, in a region that draws its order. -/
theorem qval {C : World → Prop} {ops : Array Oper} {rest : List Oper} {op : Oper} {a : Act} {Q : Act → Prop} (v : Value) (hw : Region.wanted op (yielded ops a.tmps) = true) (hv : ∀ W, (execOp a.eval op).run Tryz.prog W = .ok (.value v) W)
    (h : wpQuiet Tryz.prog ops C Q rest (a.put op.dst v)) : wpQuiet Tryz.prog ops C Q (op :: rest) a := by
  refine BigFrame.wpQuiet_want hw fun K hK => ⟨v, fun W hW => ?_, hK _ h⟩
  unfold Oper.quietAt
  rw [hv W]
  exact ⟨rfl, rfl⟩
/-- The same in a plain region. -/
theorem wval {ops : Array Oper} {rest : List Oper} {op : Oper} {a : Act} {w : World} {Q : Exit → Act → World → Prop} (hgd : op.guard = none) (v : Value) (w' : World) (hv : (execOp a.eval op).run Tryz.prog w = .ok (.value v) w')
    (h : wpList Tryz.prog ops Q rest (a.put op.dst v) w') : wpList Tryz.prog ops Q (op :: rest) a w := by
  refine wpList_plain hgd fun K hK => ?_
  unfold Oper.wp
  rw [hv]
  exact hK _ _ h
theorem exec_build {a : Act} {op : Oper} {T : TypeId} {parts : Array (Nat × Operand)} {parts' : Array (Nat × Value)} (ho : op.op = .build T parts) (hp : parts.map (fun x => (x.1, a.eval x.2)) = parts') {v : Value} {W : World} (h : (Instr.build T parts').run Tryz.prog W = .ok v W) :
    (execOp a.eval op).run Tryz.prog W = .ok (.value v) W := by
  unfold execOp
  simp only [ho, hp, Sem.run_bind, h, Result.andThen_ok, Sem.run_pure]
/-- A message's cells. -/
def mC (k : Int) (a1 a2 a3 a4 a5 : ByteArray) (cv : Value) (x : Nat → Int) (am : ByteArray) (j : Nat) : Value :=
  if j = 0 then .int .i64 k else if j = 1 then .string a1 else if j = 2 then .string a2 else if j = 3 then .string a3 else if j = 4 then .string a4 else if j = 5 then .string a5 else if j = 6 then cv else if j = 15 then .string am else .int .u64 (x (j - 7))
def mL (k : Int) (a1 a2 a3 a4 a5 : ByteArray) (cv : Value) (x : Nat → Int) (am : ByteArray) : List Value :=
  [.int .i64 k, .string a1, .string a2, .string a3, .string a4, .string a5, cv, .int .u64 (x 0), .int .u64 (x 1), .int .u64 (x 2), .int .u64 (x 3), .int .u64 (x 4), .int .u64 (x 5), .int .u64 (x 6), .int .u64 (x 7), .string am]
theorem mL_cells (k : Int) (a1 a2 a3 a4 a5 : ByteArray) (a0 : Option Addr) (n c : Nat) (x : Nat → Int) (am : ByteArray) : Cells (mL k a1 a2 a3 a4 a5 (.slice a0 n c) x am) 16 (mC k a1 a2 a3 a4 a5 (.slice a0 n c) x am) := by
  refine ⟨rfl, fun j hj => ?_, fun v hv => ?_⟩
  · have : j = 0 ∨ j = 1 ∨ j = 2 ∨ j = 3 ∨ j = 4 ∨ j = 5 ∨ j = 6 ∨ j = 7 ∨ j = 8 ∨ j = 9 ∨ j = 10 ∨ j = 11 ∨ j = 12 ∨ j = 13 ∨ j = 14 ∨ j = 15 := by omega
    rcases this with rfl | rfl | rfl | rfl | rfl | rfl | rfl | rfl | rfl | rfl | rfl | rfl | rfl | rfl | rfl | rfl <;> rfl
  · simp only [mL, List.mem_cons, List.not_mem_nil, or_false] at hv
    rcases hv with rfl | rfl | rfl | rfl | rfl | rfl | rfl | rfl | rfl | rfl | rfl | rfl | rfl | rfl | rfl | rfl <;> rfl
theorem Tryz.uM : ∃ d, Tryz.prog.underlying 29 = some d ∧ d.isRow = true := ⟨_, Tryz.underlying29, rfl⟩
theorem tM : Ty 29 16 := ⟨Tryz.uM, by kernel_rfl⟩
theorem tG : Ty 27 8 := ⟨⟨_, Tryz.underlying27, rfl⟩, by kernel_rfl⟩
abbrev nC : Value := .slice none 0 0
theorem build_k (k : Int) (W : World) : (Instr.build 29 #[(0, .int .i64 k)]).run Tryz.prog W = .ok (.agg (mL k nS nS nS nS nS nC (fun _ => 0) nS).toArray) W := by kernel_rfl
theorem mC_set (k : Int) (a1 a2 a3 a4 a5 : ByteArray) (cv : Value) (x : Nat → Int) (am : ByteArray) (j : Nat) (v : Value) (k' : Int) (b1 b2 b3 b4 b5 : ByteArray) (cv' : Value) (x' : Nat → Int) (bm : ByteArray) (h : ∀ i, i < 16 → mC k' b1 b2 b3 b4 b5 cv' x' bm i = if i = j then v else mC k a1 a2 a3 a4 a5 cv x am i) {w : World} {b : Nat} (hj : j < 16) (A : Arr w b 16 (mC k a1 a2 a3 a4 a5 cv x am)) : Arr (w.setCell ⟨b, j, none⟩ v) b 16 (mC k' b1 b2 b3 b4 b5 cv' x' bm) :=
  (A.set j hj v).congr (fun i hi => by rw [h i hi])
end Go.Proofs.YtjdpeedghpblgaaGreatDoor
/- The library's contracts (strings.TrimLeft, TrimPrefix, Repeat), laid at this translation. -/
set_option linter.all false
namespace Go.Proofs.YtjdpeedghpblgaaGreatDoor
open Go.Shelf Go.RowKit Go.Sort Go.Lib
def sh_lays161_ren : Go.Shelf.Ren := ⟨fun | 161 => 118 | 231 => 127 | 227 => 128 | 233 => 129 | 235 => 130 | 228 => 135 | 197 => 136 | 151 => 137 | 260 => 140 | 152 => 141 | 137 => 143 | 119 => 144 | 224 => 145 | 225 => 146 | 217 => 147 | 266 => 148 | n => n, fun | 9 => 9 | 4 => 4 | 3 => 3 | 5 => 5 | 117 => 143 | 116 => 142 | 0 => 0 | 124 => 146 | 105 => 154 | 21 => 21 | 119 => 161 | 46 => 80 | 139 => 164 | 138 => 163 | n => n, fun | 3 => 1 | 4 => 2 | n => n⟩
theorem sh_lays161 : Go.Proofs.Lays.n161 Tryz.prog sh_lays161_ren := {
  mixed := by kernel_rfl
  f119 := Tryz.func144.trans (congrArg some (by kernel_rfl))
  f137 := Tryz.func143.trans (congrArg some (by kernel_rfl))
  f151 := Tryz.func137.trans (congrArg some (by kernel_rfl))
  f152 := Tryz.func141.trans (congrArg some (by kernel_rfl))
  f161 := Tryz.func118.trans (congrArg some (by kernel_rfl))
  f197 := Tryz.func136.trans (congrArg some (by kernel_rfl))
  f217 := Tryz.func147.trans (congrArg some (by kernel_rfl))
  f224 := Tryz.func145.trans (congrArg some (by kernel_rfl))
  f225 := Tryz.func146.trans (congrArg some (by kernel_rfl))
  f227 := Tryz.func128.trans (congrArg some (by kernel_rfl))
  f228 := Tryz.func135.trans (congrArg some (by kernel_rfl))
  f231 := Tryz.func127.trans (congrArg some (by kernel_rfl))
  f233 := Tryz.func129.trans (congrArg some (by kernel_rfl))
  f235 := Tryz.func130.trans (congrArg some (by kernel_rfl))
  f260 := Tryz.func140.trans (congrArg some (by kernel_rfl))
  f266 := Tryz.func148.trans (congrArg some (by kernel_rfl))
  t0 := Tryz.underlying0
  a0 := Tryz.isAgg0
  z0 := Tryz.sizeOf0
  v0 := Tryz.zeroValue0
  t3 := Tryz.underlying3
  a3 := Tryz.isAgg3
  z3 := Tryz.sizeOf3
  v3 := Tryz.zeroValue3
  t4 := Tryz.underlying4
  a4 := Tryz.isAgg4
  z4 := Tryz.sizeOf4
  v4 := Tryz.zeroValue4
  t5 := Tryz.underlying5
  a5 := Tryz.isAgg5
  z5 := Tryz.sizeOf5
  v5 := Tryz.zeroValue5
  t9 := Tryz.underlying9
  a9 := Tryz.isAgg9
  z9 := Tryz.sizeOf9
  v9 := Tryz.zeroValue9
  t21 := Tryz.underlying21
  a21 := Tryz.isAgg21
  z21 := Tryz.sizeOf21
  v21 := Tryz.zeroValue21
  t46 := Tryz.underlying80
  a46 := Tryz.isAgg80
  z46 := Tryz.sizeOf80
  v46 := Tryz.zeroValue80
  t105 := Tryz.underlying154
  a105 := Tryz.isAgg154
  z105 := Tryz.sizeOf154
  v105 := Tryz.zeroValue154
  t116 := Tryz.underlying142
  a116 := Tryz.isAgg142
  z116 := Tryz.sizeOf142
  t117 := Tryz.underlying143
  a117 := Tryz.isAgg143
  z117 := Tryz.sizeOf143
  v117 := Tryz.zeroValue143
  t119 := Tryz.underlying161
  a119 := Tryz.isAgg161
  z119 := Tryz.sizeOf161
  t124 := Tryz.underlying146
  a124 := Tryz.isAgg146
  z124 := Tryz.sizeOf146
  v124 := Tryz.zeroValue146
  t138 := Tryz.underlying163
  a138 := Tryz.isAgg163
  z138 := Tryz.sizeOf163
  v138 := Tryz.zeroValue163
  t139 := Tryz.underlying164
  a139 := Tryz.isAgg164
  z139 := Tryz.sizeOf164
  v139 := Tryz.zeroValue164
  g3 := by kernel_rfl
  g4 := by kernel_rfl }
theorem sh_strings_TrimLeft_one (s : ByteArray) (c : UInt8) (hc : c.toNat < 128) (w : World) :
    Calls Tryz.prog 118 #[.string s, .string ⟨#[c]⟩] w fun e w' => e = .returned (.string ⟨(Lib.trimLeftB s.data.toList c).toArray⟩) ∧ w' = w := Any.strings_TrimLeft_one sh_lays161 s c hc w
def sh_lays101_ren : Go.Shelf.Ren := ⟨fun | 101 => 109 | 208 => 121 | 206 => 97 | n => n, fun | 9 => 9 | 4 => 4 | 3 => 3 | n => n, fun | n => n⟩
theorem sh_lays101 : Go.Proofs.Lays.n101 Tryz.prog sh_lays101_ren := {
  mixed := by kernel_rfl
  f101 := Tryz.func109.trans (congrArg some (by kernel_rfl))
  f206 := Tryz.func97.trans (congrArg some (by kernel_rfl))
  f208 := Tryz.func121.trans (congrArg some (by kernel_rfl))
  t3 := Tryz.underlying3
  a3 := Tryz.isAgg3
  z3 := Tryz.sizeOf3
  v3 := Tryz.zeroValue3
  t4 := Tryz.underlying4
  a4 := Tryz.isAgg4
  z4 := Tryz.sizeOf4
  v4 := Tryz.zeroValue4
  t9 := Tryz.underlying9
  a9 := Tryz.isAgg9
  z9 := Tryz.sizeOf9
  v9 := Tryz.zeroValue9 }
theorem sh_strings_TrimPrefix (s p : ByteArray) (w : World) :
    Calls Tryz.prog 109 #[.string s, .string p] w fun e w' => e = .returned (.string ⟨(Lib.trimPrefix s.data.toList p.data.toList).toArray⟩) ∧ w' = w := Any.strings_TrimPrefix sh_lays101 s p w
def sh_lays105_ren : Go.Shelf.Ren := ⟨fun | 105 => 33 | 212 => 63 | 99 => 64 | 165 => 65 | 166 => 66 | 170 => 67 | 169 => 68 | 263 => 95 | 264 => 96 | 206 => 97 | 240 => 98 | 241 => 99 | 276 => 115 | 277 => 116 | n => n, fun | 9 => 9 | 3 => 3 | 4 => 4 | 20 => 20 | 0 => 0 | 46 => 80 | 109 => 81 | 5 => 5 | 72 => 85 | 76 => 89 | 51 => 116 | 146 => 117 | 53 => 23 | 148 => 119 | 70 => 83 | 37 => 61 | 75 => 88 | 127 => 121 | 164 => 131 | 80 => 91 | n => n, fun | n => n⟩
theorem sh_lays105 : Go.Proofs.Lays.n105 Tryz.prog sh_lays105_ren := {
  mixed := by kernel_rfl
  f99 := Tryz.func64.trans (congrArg some (by kernel_rfl))
  f105 := Tryz.func33.trans (congrArg some (by kernel_rfl))
  f165 := Tryz.func65.trans (congrArg some (by kernel_rfl))
  f166 := Tryz.func66.trans (congrArg some (by kernel_rfl))
  f169 := Tryz.func68.trans (congrArg some (by kernel_rfl))
  f170 := Tryz.func67.trans (congrArg some (by kernel_rfl))
  f206 := Tryz.func97.trans (congrArg some (by kernel_rfl))
  f212 := Tryz.func63.trans (congrArg some (by kernel_rfl))
  f240 := Tryz.func98.trans (congrArg some (by kernel_rfl))
  f241 := Tryz.func99.trans (congrArg some (by kernel_rfl))
  f263 := Tryz.func95.trans (congrArg some (by kernel_rfl))
  f264 := Tryz.func96.trans (congrArg some (by kernel_rfl))
  f276 := Tryz.func115.trans (congrArg some (by kernel_rfl))
  f277 := Tryz.func116.trans (congrArg some (by kernel_rfl))
  t0 := Tryz.underlying0
  a0 := Tryz.isAgg0
  z0 := Tryz.sizeOf0
  v0 := Tryz.zeroValue0
  t3 := Tryz.underlying3
  a3 := Tryz.isAgg3
  z3 := Tryz.sizeOf3
  v3 := Tryz.zeroValue3
  t4 := Tryz.underlying4
  a4 := Tryz.isAgg4
  z4 := Tryz.sizeOf4
  v4 := Tryz.zeroValue4
  t5 := Tryz.underlying5
  a5 := Tryz.isAgg5
  z5 := Tryz.sizeOf5
  v5 := Tryz.zeroValue5
  t9 := Tryz.underlying9
  a9 := Tryz.isAgg9
  z9 := Tryz.sizeOf9
  v9 := Tryz.zeroValue9
  t20 := Tryz.underlying20
  a20 := Tryz.isAgg20
  z20 := Tryz.sizeOf20
  v20 := Tryz.zeroValue20
  t37 := Tryz.underlying61
  a37 := Tryz.isAgg61
  z37 := Tryz.sizeOf61
  v37 := Tryz.zeroValue61
  t46 := Tryz.underlying80
  a46 := Tryz.isAgg80
  z46 := Tryz.sizeOf80
  v46 := Tryz.zeroValue80
  t51 := Tryz.underlying116
  a51 := Tryz.isAgg116
  z51 := Tryz.sizeOf116
  v51 := Tryz.zeroValue116
  t53 := Tryz.underlying23
  a53 := Tryz.isAgg23
  z53 := Tryz.sizeOf23
  v53 := Tryz.zeroValue23
  t70 := Tryz.underlying83
  a70 := Tryz.isAgg83
  z70 := Tryz.sizeOf83
  v70 := Tryz.zeroValue83
  t72 := Tryz.underlying85
  a72 := Tryz.isAgg85
  z72 := Tryz.sizeOf85
  v72 := Tryz.zeroValue85
  t75 := Tryz.underlying88
  a75 := Tryz.isAgg88
  z75 := Tryz.sizeOf88
  v75 := Tryz.zeroValue88
  t76 := Tryz.underlying89
  a76 := Tryz.isAgg89
  z76 := Tryz.sizeOf89
  v76 := Tryz.zeroValue89
  t109 := Tryz.underlying81
  a109 := Tryz.isAgg81
  z109 := Tryz.sizeOf81
  v109 := Tryz.zeroValue81
  t127 := Tryz.underlying121
  a127 := Tryz.isAgg121
  z127 := Tryz.sizeOf121
  v127 := Tryz.zeroValue121
  t146 := Tryz.underlying117
  a146 := Tryz.isAgg117
  z146 := Tryz.sizeOf117
  v146 := Tryz.zeroValue117
  t148 := Tryz.underlying119
  a148 := Tryz.isAgg119
  z148 := Tryz.sizeOf119
  v148 := Tryz.zeroValue119
  t164 := Tryz.underlying131
  a164 := Tryz.isAgg131
  z164 := Tryz.sizeOf131
  v164 := Tryz.zeroValue131 }
theorem sh_Builder_Extra_105 : Builder.Extra Tryz.prog sh_lays105_ren := {
  sizeBuilder := by kernel_rfl
  liesBuilder := by kernel_rfl
  t5 := Tryz.underlying5
  a5 := Tryz.isAgg5
  z5 := Tryz.sizeOf5
  v5 := Tryz.zeroValue5
  infoByte := by kernel_rfl
  cellsByte := by kernel_rfl
  sizeByte := by kernel_rfl
  neB5 := by decide }
theorem sh_strings_Repeat (s : ByteArray) (c : Nat) (w : World) (hc : c ≤ 9223372036854775807) (hlen : s.size * c ≤ 140737488355328) :
    Calls Tryz.prog 33 #[.string s, .int .i64 c] w fun e w' => e = .returned (.string ⟨(Lib.repeatL s.data.toList c).toArray⟩) ∧ Below w.heap.size w w' := Any.strings_Repeat sh_lays105 sh_Builder_Extra_105 s c w hc hlen
end Go.Proofs.YtjdpeedghpblgaaGreatDoor
/- Numbers and bytes, the highest first, as few as can be. -/
set_option linter.all false
set_option maxRecDepth 100000
namespace Go.Proofs.YtjdpeedghpblgaaGreatDoor
open Go.RowKit
def Bys (l : List Int) : Prop := ∀ x ∈ l, 0 ≤ x ∧ x < 256
theorem Bys.tl {x : Int} {l : List Int} (h : Bys (x :: l)) : Bys l := fun y hy => h y (List.mem_cons_of_mem _ hy)
theorem Bys.hd {x : Int} {l : List Int} (h : Bys (x :: l)) : 0 ≤ x ∧ x < 256 := h x (List.mem_cons_self ..)
theorem Bys.cons {x : Int} {l : List Int} (h : 0 ≤ x ∧ x < 256) (hl : Bys l) : Bys (x :: l) := fun y hy => by
  rcases List.mem_cons.1 hy with rfl | hy
  · exact h
  · exact hl y hy
theorem Bys.app {a b : List Int} (ha : Bys a) (hb : Bys b) : Bys (a ++ b) := fun y hy => (List.mem_append.1 hy).elim (ha y) (hb y)
/-- The number of some bytes, the highest first. -/
def beV : List Int → Int
  | [] => 0
  | x :: l => x * 256 ^ l.length + beV l
theorem pw_pos (n : Nat) : (0 : Int) < 256 ^ n := Int.pow_pos (by decide)
theorem beV_bd (l : List Int) (h : Bys l) : 0 ≤ beV l ∧ beV l < 256 ^ l.length := by
  induction l with
  | nil => simp [beV]
  | cons x l ih =>
    have := ih h.tl
    have hx := h.hd
    have p := pw_pos l.length
    have m0 : 0 ≤ x * 256 ^ l.length := Int.mul_nonneg hx.1 (by omega)
    have m1 : x * 256 ^ l.length ≤ 255 * 256 ^ l.length := Int.mul_le_mul_of_nonneg_right (by omega) (by omega)
    rw [beV, List.length_cons, Int.pow_succ]
    omega
theorem beV_app (a b : List Int) : beV (a ++ b) = beV a * 256 ^ b.length + beV b := by
  induction a with
  | nil => simp [beV]
  | cons x a ih =>
    rw [List.cons_append, beV, beV, ih, List.length_append, Int.pow_add]
    grind
theorem beV_snoc (a : List Int) (x : Int) : beV (a ++ [x]) = beV a * 256 + x := by
  rw [beV_app]; simp [beV]
theorem beV_zeros (k : Nat) (l : List Int) : beV (List.replicate k 0 ++ l) = beV l := by
  induction k with
  | zero => rfl
  | succ k ih => rw [List.replicate_succ, List.cons_append, beV, ih]; omega
theorem beV_inj (a b : List Int) (ha : Bys a) (hb : Bys b) (hl : a.length = b.length) (h : beV a = beV b) : a = b := by
  induction a generalizing b with
  | nil => exact (List.eq_nil_of_length_eq_zero hl.symm).symm
  | cons x a ih =>
    cases b with
    | nil => simp at hl
    | cons y b =>
      have hl' : a.length = b.length := by simpa using hl
      have p := pw_pos b.length
      have va := beV_bd a ha.tl
      have vb := beV_bd b hb.tl
      rw [beV, beV, hl'] at h
      rw [hl'] at va
      have hxy : x = y := by
        rcases Int.lt_trichotomy x y with c | c | c
        · have : (x + 1) * 256 ^ b.length ≤ y * 256 ^ b.length := Int.mul_le_mul_of_nonneg_right (by omega) (by omega)
          rw [Int.add_mul, Int.one_mul] at this
          omega
        · exact c
        · have : (y + 1) * 256 ^ b.length ≤ x * 256 ^ b.length := Int.mul_le_mul_of_nonneg_right (by omega) (by omega)
          rw [Int.add_mul, Int.one_mul] at this
          omega
      subst hxy
      rw [ih b ha.tl hb.tl hl' (by omega)]
/-- Without the bytes 0 ahead. -/
def dz (l : List Int) : List Int := l.dropWhile (fun x => decide (x = 0))
theorem dz_split (l : List Int) : ∃ k, l = List.replicate k 0 ++ dz l ∧ k + (dz l).length = l.length := by
  induction l with
  | nil => exact ⟨0, rfl, rfl⟩
  | cons x l ih =>
    by_cases h : x = 0
    · subst h
      obtain ⟨k, e, hk⟩ := ih
      have : dz (0 :: l) = dz l := by simp [dz]
      refine ⟨k + 1, ?_, ?_⟩
      · rw [this, List.replicate_succ, List.cons_append, ← e]
      · rw [this, List.length_cons]; omega
    · have : dz (x :: l) = x :: l := by simp [dz, h]
      exact ⟨0, by rw [this]; rfl, by rw [this]; simp⟩
theorem dz_head (l : List Int) (x : Int) (r : List Int) (h : dz l = x :: r) : x ≠ 0 := by
  induction l with
  | nil => simp [dz] at h
  | cons y l ih =>
    by_cases hy : y = 0
    · subst hy
      have : dz (0 :: l) = dz l := by simp [dz]
      rw [this] at h; exact ih h
    · have : dz (y :: l) = y :: l := by simp [dz, hy]
      rw [this] at h; cases h; exact hy
theorem dz_val (l : List Int) : beV (dz l) = beV l := by
  obtain ⟨k, e, _⟩ := dz_split l
  have := beV_zeros k (dz l)
  rw [← e] at this
  exact this.symm
theorem dz_bys (l : List Int) (h : Bys l) : Bys (dz l) := fun x hx => h x ((List.dropWhile_sublist _).subset hx)
theorem dz_zeros (k : Nat) (l : List Int) : dz (List.replicate k 0 ++ l) = dz l := by
  induction k with
  | zero => rfl
  | succ k ih => rw [List.replicate_succ, List.cons_append]; simp [dz]
theorem dz_id (x : Int) (r : List Int) (h : x ≠ 0) : dz (x :: r) = x :: r := by simp [dz, h]
/-- As a number stands within a tag. -/
def iL (d : List Int) : List Int := if d = [] ∨ 128 ≤ d.headD 0 then 0 :: d else d
theorem iL_bys (d : List Int) (h : Bys d) : Bys (iL d) := by
  unfold iL; split
  · exact Bys.cons (by omega) h
  · exact h
/-- What is left of a text without one byte 0 ahead. -/
def cut0 (l : List Int) : List Int := if l.headD 1 = 0 then l.tail else l
/-- ToInt's error. -/
def tiE (l : List Int) : Int := if l = [] then 11 else if 128 ≤ l.headD 0 ∨ (1 < l.length ∧ l.headD 0 = 0 ∧ l.tail.headD 0 < 128) then 10 else if 32 < (cut0 l).length then 13 else 0
theorem ti_iL (d : List Int) (hb : Bys d) (hl : d.length ≤ 32) (hd : ∀ x r, d = x :: r → x ≠ 0) : tiE (iL d) = 0 ∧ cut0 (iL d) = d := by
  unfold iL
  cases d with
  | nil => simp [tiE, cut0]
  | cons x r =>
    have hx := hd x r rfl
    have hr := hb.hd
    by_cases c : 128 ≤ x
    · rw [if_pos (by simp [c])]
      have e : cut0 (0 :: x :: r) = x :: r := by simp [cut0]
      refine ⟨?_, e⟩
      unfold tiE
      rw [e]
      simp at hl ⊢
      omega
    · rw [if_neg (by simp [c])]
      have e : cut0 (x :: r) = x :: r := by simp [cut0, hx]
      refine ⟨?_, e⟩
      unfold tiE
      rw [e]
      simp [hx] at hl ⊢
      omega
theorem iL_ti (l : List Int) (hb : Bys l) (h : tiE l = 0) : (cut0 l).length ≤ 32 ∧ iL (dz (cut0 l)) = l := by
  unfold tiE at h
  split at h
  · exact absurd h (by decide)
  · rename_i h0
    split at h
    · exact absurd h (by decide)
    · rename_i h1
      split at h
      · exact absurd h (by decide)
      · rename_i h2
        refine ⟨by omega, ?_⟩
        cases l with
        | nil => exact absurd rfl h0
        | cons x r =>
          have hx := hb.hd
          simp at h1
          by_cases c : x = 0
          · subst c
            have e : cut0 (0 :: r) = r := by simp [cut0]
            rw [e]
            cases r with
            | nil => simp [dz, iL]
            | cons y r =>
              have hy : 128 ≤ y := by have := h1.2; simp at this; omega
              rw [dz_id y r (by omega)]
              simp [iL, hy]
          · have e : cut0 (x :: r) = x :: r := by simp [cut0, c]
            rw [e, dz_id x r c]
            unfold iL
            rw [if_neg (by simp; omega)]
theorem iL_len (a b : List Int) (ha : Bys a) (hb : Bys b) (h : beV a ≤ beV b) : (iL (dz a)).length ≤ (iL (dz b)).length := by
  rw [← dz_val a, ← dz_val b] at h
  have ha' := dz_bys a ha
  have hb' := dz_bys b hb
  have na := dz_head a
  generalize dz a = p at *
  generalize dz b = q at *
  have vq := beV_bd q hb'
  have len_ge : ∀ d : List Int, d.length ≤ (iL d).length ∧ (iL d).length ≤ d.length + 1 := fun d => by
    unfold iL; split <;> simp
  have lp := len_ge p
  have lq := len_ge q
  cases p with
  | nil =>
    have : (iL []).length = 1 := by simp [iL]
    rw [this]
    cases q with
    | nil => simp [iL]
    | cons y q => simp at lq; omega
  | cons x p =>
    have hx := na x p rfl
    have hr := ha'.hd
    have vp := beV_bd p ha'.tl
    have pp := pw_pos p.length
    have e : beV (x :: p) = x * 256 ^ p.length + beV p := rfl
    have m1 : 1 * 256 ^ p.length ≤ x * 256 ^ p.length := Int.mul_le_mul_of_nonneg_right (by omega) (by omega)
    have hlen : p.length < q.length := by
      apply Nat.not_le.1
      intro c
      have : (256 : Int) ^ q.length ≤ 256 ^ p.length := by
        obtain ⟨k, hk⟩ := Nat.le.dest c
        rw [← hk, Int.pow_add]
        have := Int.mul_le_mul_of_nonneg_left (show (1 : Int) ≤ 256 ^ k from by have := pw_pos k; omega) (show (0 : Int) ≤ 256 ^ q.length from by have := pw_pos q.length; omega)
        omega
      omega
    cases q with
    | nil => simp at hlen
    | cons y q =>
      simp only [List.length_cons] at *
      by_cases c : p.length < q.length
      · omega
      · have eq : p.length = q.length := by omega
        have vq' := beV_bd q hb'.tl
        have e2 : beV (y :: q) = y * 256 ^ q.length + beV q := rfl
        by_cases cx : 128 ≤ x
        · have hxy : x ≤ y := by
            apply Int.not_lt.1
            intro c2
            have : (y + 1) * 256 ^ q.length ≤ x * 256 ^ q.length := Int.mul_le_mul_of_nonneg_right (by omega) (by have := pw_pos q.length; omega)
            rw [Int.add_mul, Int.one_mul] at this
            rw [e, e2, eq] at h
            omega
          have : iL (y :: q) = 0 :: y :: q := by unfold iL; rw [if_pos (by simp; omega)]
          rw [this]; simp; omega
        · have : iL (x :: p) = x :: p := by unfold iL; rw [if_neg (by simp; omega)]
          rw [this]; simp; omega
/- Texts as rows of numbers. -/
def sL (s : ByteArray) : List Int := s.data.toList.map (fun b : UInt8 => (b.toNat : Int))
theorem mkS_sL (s : ByteArray) : mkS (sL s) = s := mkS_strCells s
theorem sL_bys (s : ByteArray) : Bys (sL s) := fun x hx => by
  obtain ⟨b, _, rfl⟩ := List.mem_map.1 hx
  have := b.toNat_lt
  omega
theorem sL_len (s : ByteArray) : (sL s).length = s.size := by rw [sL, List.length_map, len_list]
theorem sL_mkS (l : List Int) (h : Bys l) : sL (mkS l) = l := by
  unfold sL
  rw [mkS_list, List.map_map]
  conv => rhs; rw [← List.map_id l]
  apply List.map_congr_left
  intro x hx
  have := h x hx
  simp only [Function.comp]
  show ((UInt8.ofNat x.toNat).toNat : Int) = x
  rw [UInt8.toNat_ofNat']
  omega
theorem mkS_inj (a b : List Int) (ha : Bys a) (hb : Bys b) (h : mkS a = mkS b) : a = b := by
  rw [← sL_mkS a ha, ← sL_mkS b hb, h]
theorem mkS_app (a b : List Int) : mkS a ++ mkS b = mkS (a ++ b) := by
  apply ba_ext
  rw [ap_list, mkS_list, mkS_list, mkS_list, List.map_append]
theorem bt_sL (s : ByteArray) (i : Nat) : bt s i = (sL s).getD i 0 := by
  unfold bt sL
  rw [List.getD_eq_getElem?_getD, List.getElem?_map, Array.getElem?_toList]
  cases s.data[i]? <;> rfl
theorem bgL_bys (N : Int) : Bys (bgL N) := fun x hx => by
  unfold bgL at hx
  obtain ⟨j, _, rfl⟩ := List.mem_map.1 hx
  exact byt_bd N j
theorem bgL_len (N : Int) : (bgL N).length = 32 := by simp [bgL]
theorem pn_beV (f : Nat → Int) (l : List Int) : (∀ i, i < l.length → f i = l.getD i 0) → pn 8 f l.length = beV l := by
  intro h
  have key : ∀ k, k ≤ l.length → pn 8 f k = beV (l.take k) := by
    intro k
    induction k with
    | zero => intro _; simp [pn, beV]
    | succ k ih =>
      intro hk
      rw [pn, ih (by omega), List.take_succ_eq_append_getElem (by omega), beV_snoc, h k (by omega), List.getD_eq_getElem?_getD, List.getElem?_eq_getElem (by omega)]
      rfl
  have := key l.length (Nat.le_refl _)
  rw [List.take_length] at this
  exact this
theorem bgL_val (N : Int) (h0 : 0 ≤ N) (h1 : N < top256) : beV (bgL N) = N := by
  have := pn_beV (byt N) (bgL N) (fun i hi => by
    rw [bgL_len] at hi
    rw [List.getD_eq_getElem?_getD, bgL_at N i hi]; rfl)
  rw [bgL_len, pn_all N h0 h1] at this
  exact this.symm
theorem pow32 : (256 : Int) ^ 32 = top256 := by decide
theorem bgL_beV (l : List Int) (h : Bys l) (hl : l.length = 32) : 0 ≤ beV l ∧ beV l < top256 ∧ bgL (beV l) = l := by
  have b := beV_bd l h
  rw [hl, pow32] at b
  exact ⟨b.1, b.2, beV_inj _ _ (bgL_bys _) h (by rw [bgL_len, hl]) (bgL_val _ b.1 b.2)⟩
end Go.Proofs.YtjdpeedghpblgaaGreatDoor
/- The library's contracts (strings.Builder Len, String), laid at this translation. -/
set_option linter.all false
namespace Go.Proofs.YtjdpeedghpblgaaGreatDoor
open Go.Shelf Go.RowKit Go.Sort Go.Lib
def sh_lays170_ren : Go.Shelf.Ren := ⟨fun | 170 => 67 | n => n, fun | 70 => 83 | 3 => 3 | 0 => 0 | 72 => 85 | 37 => 61 | 5 => 5 | n => n, fun | n => n⟩
theorem sh_lays170 : Go.Proofs.Lays.n170 Tryz.prog sh_lays170_ren := {
  mixed := by kernel_rfl
  f170 := Tryz.func67.trans (congrArg some (by kernel_rfl))
  t0 := Tryz.underlying0
  a0 := Tryz.isAgg0
  z0 := Tryz.sizeOf0
  v0 := Tryz.zeroValue0
  t3 := Tryz.underlying3
  a3 := Tryz.isAgg3
  z3 := Tryz.sizeOf3
  v3 := Tryz.zeroValue3
  t37 := Tryz.underlying61
  a37 := Tryz.isAgg61
  z37 := Tryz.sizeOf61
  v37 := Tryz.zeroValue61
  t70 := Tryz.underlying83
  a70 := Tryz.isAgg83
  z70 := Tryz.sizeOf83
  v70 := Tryz.zeroValue83
  t72 := Tryz.underlying85
  a72 := Tryz.isAgg85
  z72 := Tryz.sizeOf85
  v72 := Tryz.zeroValue85 }
theorem sh_Builder_Len (B b : Nat) (bs : List Value) (w : World) (h : Lib.IsBuilder 85 5 B b bs w) :
    Calls Tryz.prog 67 #[.pointer (some ⟨b, 0, none⟩)] w fun e w' => e = .returned (.int .i64 bs.length) ∧ w' = w := Any.Builder_Len sh_lays170 B b bs w h
def sh_lays169_ren : Go.Shelf.Ren := ⟨fun | 169 => 68 | n => n, fun | 70 => 83 | 9 => 9 | 0 => 0 | 72 => 85 | 37 => 61 | 127 => 121 | 3 => 3 | 5 => 5 | n => n, fun | n => n⟩
theorem sh_lays169 : Go.Proofs.Lays.n169 Tryz.prog sh_lays169_ren := {
  mixed := by kernel_rfl
  f169 := Tryz.func68.trans (congrArg some (by kernel_rfl))
  t0 := Tryz.underlying0
  a0 := Tryz.isAgg0
  z0 := Tryz.sizeOf0
  v0 := Tryz.zeroValue0
  t3 := Tryz.underlying3
  a3 := Tryz.isAgg3
  z3 := Tryz.sizeOf3
  v3 := Tryz.zeroValue3
  t9 := Tryz.underlying9
  a9 := Tryz.isAgg9
  z9 := Tryz.sizeOf9
  v9 := Tryz.zeroValue9
  t37 := Tryz.underlying61
  a37 := Tryz.isAgg61
  z37 := Tryz.sizeOf61
  v37 := Tryz.zeroValue61
  t70 := Tryz.underlying83
  a70 := Tryz.isAgg83
  z70 := Tryz.sizeOf83
  v70 := Tryz.zeroValue83
  t72 := Tryz.underlying85
  a72 := Tryz.isAgg85
  z72 := Tryz.sizeOf85
  v72 := Tryz.zeroValue85
  t127 := Tryz.underlying121
  a127 := Tryz.isAgg121
  z127 := Tryz.sizeOf121
  v127 := Tryz.zeroValue121 }
theorem sh_Builder_Extra_169 : Builder.Extra Tryz.prog sh_lays169_ren := {
  sizeBuilder := by kernel_rfl
  liesBuilder := by kernel_rfl
  t5 := Tryz.underlying5
  a5 := Tryz.isAgg5
  z5 := Tryz.sizeOf5
  v5 := Tryz.zeroValue5
  infoByte := by kernel_rfl
  cellsByte := by kernel_rfl
  sizeByte := by kernel_rfl
  neB5 := by decide }
theorem sh_Builder_String_any (B b : Nat) (l : List UInt8) (w : World) (h : Lib.IsBuilder 85 5 B b (Lib.byteCells l) w) (hBw : B ≤ w.heap.size) :
    Calls Tryz.prog 68 #[.pointer (some ⟨b, 0, none⟩)] w fun e w' => e = .returned (.string ⟨l.toArray⟩) ∧ Below B w w' := Any.Builder_String_any sh_lays169 sh_Builder_Extra_169 B b l w h hBw
end Go.Proofs.YtjdpeedghpblgaaGreatDoor
/- Package hand: numbers and vectors as bytes. -/
set_option linter.all false
set_option maxRecDepth 100000
namespace Go.Proofs.YtjdpeedghpblgaaGreatDoor
open Go.RowKit Go.Sort
set_option maxHeartbeats 4000000 in
theorem hnum_core (k n : Nat) (hk : k ≤ 3) (hn : (n : Int) ≤ 281474976710656) (C : Array Value) (hC : Hid (∀ j, j < k → C[j]? = some (.int .u8 0))) (mk : ∀ W : World, (Instr.makeSlice 61 (.int .i64 (k : Int)) (.int .i64 (k : Int))).run Tryz.prog W = .ok (.slice (some ⟨W.heap.size, 0, none⟩) k k) (W.alloc (.cells C 5))) (w : World) :
    Calls Tryz.prog 22 #[.int .i64 (k : Int), .int .i64 (n : Int)] w fun e w' => e = .returned (.string (mkS (dgL k n))) ∧ Below w.heap.size w w' := by
  have HL : Hid (∀ j, j < k → (dgL k n).getD j 0 = dgF k n j) := fun j hj => dgL_at k n j hj
  have HZ : Hid ((dgL k n).length = k) := dgL_len k n
  have HD : Hid (∀ j, j < k → dgF k n j = (n : Int) / 256 ^ (k - 1 - j) % 256) := fun j _ => rfl
  have k3 : (k : Int) ≤ 3 := by omega
  have k0 : (0 : Int) ≤ (k : Int) := by omega
  have n0 : (0 : Int) ≤ (n : Int) := by omega
  generalize hG : dgF k n = g at *
  clear hG
  go_enter Tryz.func22, Tryz.ntmps22
  go_wp2_with fail
  go_loopw [10] (fun i wr => ∃ j : Nat, j ≤ k ∧ i = .int .i64 (j : Int) ∧ Below w.heap.size w wr ∧ Arr wr w.heap.size k (fun x => .int .u8 (if k ≤ x + j then g x else 0)))
    (fun i _ => k - (Go.RowKit.intOf i).toNat)
  case atStart =>
    refine ⟨0, by omega, rfl, by go_grown, ?_⟩
    exact (Arr.new _ _ _ _ (by simp) _ k hC.out).congr (by intro j hj; rw [if_neg (by omega)])
  case round =>
    clear mk hC
    obtain ⟨j, hj, rfl, hB, hA⟩ := hrel
    by_cases hlt : j = k
    · subst hlt
      have cv := convG wr w.heap.size j (dgL j n) HZ.out (by intro x hx; rw [hA.c x hx, if_pos (by omega), HL.out x hx])
      clear hA
      go_wp2_with fail
      go_ret
      exact ⟨rfl, hB⟩
    · obtain ⟨q, hq⟩ : ∃ q, k = q + 1 + j := ⟨k - 1 - j, by omega⟩
      have hd := HD.out q (by omega)
      have pj : k - 1 - q = j := by omega
      rw [pj] at hd
      have ra := hA.c q (by omega)
      have za := hA.z q (by omega)
      have hqk : (k : Int) = (q : Int) + 1 + (j : Int) := by omega
      have q0 : (0 : Int) ≤ (q : Int) := by omega
      have st : Arr (wr.setCell ⟨w.heap.size, q, none⟩ (.int .u8 (g q))) w.heap.size k (fun x => .int .u8 (if k ≤ x + (j + 1) then g x else 0)) := by
        refine (hA.set q (by omega) _).congr ?_
        intro x hx
        by_cases h : x = q
        · subst h; rw [if_pos rfl, if_pos (by omega)]
        · rw [if_neg h]
          by_cases h2 : k ≤ x + j
          · rw [if_pos h2, if_pos (by omega)]
          · rw [if_neg h2, if_neg (by omega)]
      have sB : Below w.heap.size w (wr.setCell ⟨w.heap.size, q, none⟩ (.int .u8 (g q))) := hB.setCell (by show _ ≤ w.heap.size; omega) _
      clear hA hB HL HZ HD
      have ix : (k : Int) - 1 - (j : Int) = (q : Int) := by omega
      have lt1 : (q : Int) < (k : Int) := by omega
      have HS : Hid (g q = (n : Int) / 256 ^ j % 256) := hd
      have cj : j = 0 ∨ j = 1 ∨ j = 2 := by omega
      generalize hgq : g q = y at *
      clear hd
      rcases cj with rfl | rfl | rfl
      · have e : y = (n : Int) % 256 := by rw [HS.out]; simp
        have HE : Hid _ := e
        clear HS e
        go_wp2_with fail
        refine ⟨⟨1, by omega, by go_num, ?_, ?_⟩, by simp [Go.RowKit.intOf]; try omega⟩
        · have := HE.out
          first | (rw [← this]; exact sB) | (rw [this] at sB; exact sB)
        · have := HE.out
          first | (rw [← this]; exact st) | (rw [this] at st; exact st)
      · have e : y = (n : Int) / 256 % 256 := by rw [HS.out]; simp
        have HE : Hid _ := e
        clear HS e
        go_wp2_with fail
        refine ⟨⟨2, by omega, by go_num, ?_, ?_⟩, by simp [Go.RowKit.intOf]; try omega⟩
        · have := HE.out
          first | (rw [← this]; exact sB) | (rw [this] at sB; exact sB)
        · have := HE.out
          first | (rw [← this]; exact st) | (rw [this] at st; exact st)
      · have e : y = (n : Int) / 65536 % 256 := by rw [HS.out]; simp
        have HE : Hid _ := e
        clear HS e
        go_wp2_with fail
        refine ⟨⟨3, by omega, by go_num, ?_, ?_⟩, by simp [Go.RowKit.intOf]; try omega⟩
        · have := HE.out
          first | (rw [← this]; exact sB) | (rw [this] at sB; exact sB)
        · have := HE.out
          first | (rw [← this]; exact st) | (rw [this] at st; exact st)
theorem hnum_any (k n : Nat) (hk : k ≤ 3) (hn : (n : Int) ≤ 281474976710656) (w : World) :
    Calls Tryz.prog 22 #[.int .i64 (k : Int), .int .i64 (n : Int)] w fun e w' => e = .returned (.string (mkS (dgL k n))) ∧ Below w.heap.size w w' := by
  obtain ⟨C, hC, mk⟩ := madeN k (by omega)
  exact hnum_core k n hk hn C hC mk w
set_option maxHeartbeats 1000000 in
theorem hvec_any (k : Nat) (s : ByteArray) (hk : k ≤ 3) (hn : (s.size : Int) ≤ 281474976710656) (w : World) :
    Calls Tryz.prog 23 #[.int .i64 (k : Int), .string s] w fun e w' => e = .returned (.string (vec k s)) ∧ Below w.heap.size w w' := by
  have N := hnum_any k s.size hk hn w
  have z : ((mkS (dgL k s.size)).size : Int) = k := by rw [mkS_size, dgL_len]
  have HV : Hid (vec k s = mkS (dgL k s.size) ++ s) := rfl
  generalize mkS (dgL k s.size) = T at *
  go_enter Tryz.func23, Tryz.ntmps23
  go_wp2_with (go_at_call 22; refine N.mono ?_; rintro e w' ⟨rfl, hb⟩)
  go_ret
  exact ⟨by rw [HV.out]; rfl, hb⟩
end Go.Proofs.YtjdpeedghpblgaaGreatDoor
/- A range over a function whose iterator tells its body more than what it hands out; the body may be left by an exit. -/
set_option linter.all false
namespace Go.Proofs.YtjdpeedghpblgaaGreatDoor
open Go.RowKit Go.Shelf Go.Sort
theorem boxed_app {W w1 : World} {n₀ B : Nat} {t e : TypeId} {size : Nat} {v v' : Value} {k m : Nat} {xs ys : List Value}
    (hv : Boxed W B t v) (hte : t ≠ e) (hrow : W.ownsRow n₀ e size v k xs) (hn₀ : n₀ ≤ W.heap.size) (hB : n₀ ≤ B)
    (hown' : w1.ownsRow n₀ e size v' m ys) (hgrow : W.grownBy w1 v.ownBlock) :
    Boxed w1 B t v ∧ Boxed (w1.setCell ⟨B, 0, none⟩ v') B t v' ∧ (w1.setCell ⟨B, 0, none⟩ v').ownsRow n₀ e size v' m ys ∧ KeepsOthers W (w1.setCell ⟨B, 0, none⟩ v') ∧ Below n₀ W (w1.setCell ⟨B, 0, none⟩ v') := by
  have hv1 : Boxed w1 B t v := hv.kept hgrow (hv.not_row hte hrow)
  refine ⟨hv1, hv1.set v', hown'.kept (grownBy_setCell' w1 B v') (.inr (hv1.not_row hte hown').symm), ?_, ?_⟩
  · refine (KeepsOthers.of_grownBy hgrow fun j o ej hj => ?_).trans (KeepsOthers.setCell _ _ _)
    rcases hrow.2 with ⟨rfl, _⟩ | ⟨g, cap, cur, rfl, _, hgb, _⟩
    · simp [Value.ownBlock] at ej
    · obtain rfl : g = j := by simpa [Value.ownBlock] using ej
      rw [hgb] at hj; cases hj; rfl
  · refine ((Below.refl n₀ W).grown hgrow hn₀ fun j ej => ?_).setCell (p := ⟨B, 0, none⟩) hB v'
    rcases hrow.2 with ⟨rfl, _⟩ | ⟨g, cap, cur, rfl, hb, _, _⟩
    · simp [Value.ownBlock] at ej
    · obtain rfl : g = j := by simpa [Value.ownBlock] using ej
      exact hb
theorem gby {W w1 : World} (hb : Below W.heap.size W w1) : W.grownBy w1 none := ⟨hb.os, hb.tape, hb.output, hb.size, fun k hk _ => hb.block k hk⟩
theorem ko_below {W W' : World} (hb : Below W.heap.size W W') : KeepsOthers W W' := KeepsOthers.of_grownBy (gby hb) (fun j o e _ => by cases e)
theorem arr_kept {W W' : World} {b n : Nat} {f : Nat → Value} {row : Option Nat} (h : Arr W b n f) (hg : W.grownBy W' row) (hr : ∀ r, row = some r → ∃ o : Obj, W.heap[r]? = some o ∧ o.isCells = false) : Arr W' b n f := fun j hj =>
  ⟨cell_kept (h j hj).1 hg hr, (frozen_kept (h j hj).1 hg hr).trans (h j hj).2⟩
section
variable {F : Fence} {n : Nat} {P : Program}
/-- The loop's record, and the block for what the rounds put off, lie as they should. -/
def Book (w : World) (r : Loop) (A : World) : Prop := A.heap[w.heap.size + 1]? = some (.loop r) ∧ A.heap[w.heap.size]? = some (.deferred (some []))
theorem Book.keep {w A B : World} {r : Loop} (h : Book w r A) (k : KeepsOthers A B) : Book w r B := ⟨k.same _ _ h.1 rfl, k.same _ _ h.2 rfl⟩
theorem Book.put {w A : World} {r : Loop} (h : Book w r A) (r' : Loop) : Book w r' (A.putObj (w.heap.size + 1) (.loop r')) :=
  ⟨World.putObj_heap_same (Array.getElem?_eq_some_iff.1 h.1).1, (World.putObj_heap_other (by omega)).trans h.2⟩
def SeqM {α : Type} (F : Fence) (n : Nat) (P : Program) (g : Nat) (lb : Array Value) (encs : α → Array Value) (Kp : World → World → Prop) (Mk : List α → α → World → Prop) (Bd S Sp : List α → Prop) (row : Option Nat) (Ed : World → Prop) (w : World) : Prop :=
  ∀ (l : Nat) (J Jx : List α → World → Prop) (W : World), Below w.heap.size w W → AbidesFrom W.heap.size J → AbidesFrom W.heap.size Jx → (∀ s A B, J s A → A.grownBy B row → J s B) → (∀ s A, J s A → Bd s) →
    (∀ pre x A, J pre A → Mk pre x A → YieldAt F (n - 1) P l (encs x) A fun e A' => (e = .returned (.bool true) ∧ J (pre ++ [x]) A' ∧ Kp A A') ∨ (e = .returned (.bool false) ∧ Jx (pre ++ [x]) A')) →
    J [] W → CallsIn F n P g (#[.func (.yield l) #[] #[]] ++ lb) W fun e A' => (∃ v, e = .returned v) ∧ ((∃ xs, S xs ∧ J xs A' ∧ Ed A') ∨ (∃ pre, Sp pre ∧ Jx pre A'))
/-- How a round may end. -/
def EndM {α : Type} (Kp : World → World → Prop) (I Ix : List α → World → Prop) (xs : List α) (W : World) : Exit → Act → World → Prop
  | .normal, _, W' => KeepsOthers W W' ∧ Kp W W' ∧ I xs W'
  | .exit id, _, W' => id = 0 ∧ KeepsOthers W W' ∧ Ix xs W'
  | _, _, _ => False
theorem Book.grown {w A B : World} {r : Loop} {row : Option Nat} (h : Book w r A) (hg : A.grownBy B row) (hr : ∀ k, row = some k → k < w.heap.size) : Book w r B :=
  ⟨(hg.block _ (Array.getElem?_eq_some_iff.1 h.1).1 (fun e => by have := hr _ e.symm; omega)).trans h.1, (hg.block _ (Array.getElem?_eq_some_iff.1 h.2).1 (fun e => by have := hr _ e.symm; omega)).trans h.2⟩
/-- One block that is no cells, of the loop's own, is turned. -/
def Upd (B : Nat) (W W' : World) : Prop := ∃ l o, W.heap[l]? = some o ∧ o.isCells = false ∧ B ≤ l ∧ W.grownBy W' (some l)
theorem Upd.own {β : Type} {B : Nat} {I : β → World → Prop} (hI : OwnFrom B I) {s : β} {W W' : World} (h : Upd B W W') (hi : I s W) : I s W' := by
  obtain ⟨l, o, h1, h2, h3, h4⟩ := h
  exact hI s W W' (some l) hi h4 (fun r e => by cases e; exact ⟨h3, o, h1, h2⟩)
theorem Upd.arr {B : Nat} {W W' : World} (h : Upd B W W') {b n : Nat} {f : Nat → Value} (hA : Arr W b n f) : Arr W' b n f := by
  obtain ⟨l, o, h1, h2, h3, h4⟩ := h
  exact arr_kept hA h4 (fun r e => by cases e; exact ⟨o, h1, h2⟩)
theorem wpIn_rangeFunc_made {α : Type} {g : Operand} {ps : Array Tmp} {assign body : Code} {Q : Exit → Act → World → Prop} {a : Act} {w : World}
    (hro : F.round = none) (h1 : 1 ≤ n) {gf : Nat} {lb : Array Value} (hg : a.eval g = .func (.func gf) #[] lb) (hFg : F.fn gf) (eg : ∀ args w, (callFunc gf args).run P w = .ok (.enter gf args) w)
    {encs : α → Array Value} {Kp : World → World → Prop} {Mk : List α → α → World → Prop} {Bd S Sp : List α → Prop} {row : Option Nat} {Ed : World → Prop} {w0 : World} (hseq : SeqM F (n - 1) P gf lb encs Kp Mk Bd S Sp row Ed w0)
    (hKt : ∀ {A B C : World}, Kp A B → Kp B C → Kp A C) (hKb : ∀ (W : World) (l : Nat) (o o' : Obj), w.heap.size ≤ l → W.heap[l]? = some o → o.isCells = false → Kp W (W.putObj l o')) (hKg : ∀ A B : World, A.grownBy B none → Kp A B) (hb0 : Below w0.heap.size w0 w) (hps : ∀ x, (encs x).size = ps.size)
    (hrow : ∀ k, row = some k → k < w.heap.size) (hMk : OwnFrom w.heap.size (fun (s : List α × α) W => Mk s.1 s.2 W)) (hEd : OwnFrom w.heap.size (fun (_ : Unit) W => Ed W))
    (I Ix : List α → World → Prop) (hI : OwnFrom w.heap.size I) (hIx : OwnFrom w.heap.size Ix) (hIg : ∀ s A B, I s A → A.grownBy B row → I s B) (hBd : ∀ s A, I s A → Bd s) (h0 : I [] w)
    (hround : ∀ (l : Nat) (pre : List α) (x : α) (W : World), I pre W → Mk pre x W →
      assign.wpIn (F.inRound l) (n - 1 - 1) P (Exit.then (fun a₁ W₁ => W.grownBy W₁ none ∧ ∀ W₂, Upd w.heap.size W₁ W₂ → I pre W₂ → Mk pre x W₂ → body.wpIn (F.inRound l) (n - 1 - 1) P (EndM Kp I Ix (pre ++ [x]) W₂) a₁ W₂) (fun _ _ _ => False))
        { tmps := (ps.zip (encs x)).foldl (fun t (p, v) => t.setIfInBounds p v) a.tmps, defers := [] } W)
    (hdone : ∀ (D : Nat) (xs : List α) (W : World), w.heap.size ≤ D → S xs → I xs W → Ed W → W.heap[D]? = some (.deferred (some [])) → Q .normal { a with defers := { target := .collected D, args := #[] } :: a.defers } W)
    (hstop : ∀ (D : Nat) (pre : List α) (W : World), w.heap.size ≤ D → Sp pre → Ix pre W → W.heap[D]? = some (.deferred (some [])) → (Code.exit 0).wpIn F n P Q { a with defers := { target := .collected D, args := #[] } :: a.defers } W) :
    (Code.rangeFunc g ps assign body).wpIn F n P Q a w := by
  refine wpIn_rangeFunc fun fn hfn => ?_
  rw [hro]
  obtain ⟨R, hR⟩ : ∃ R : LoopState → Option Code → Loop, R = fun st pe => { state := st, pending := pe, fn, tmps := a.tmps, params := ps, assign, body, defers := w.heap.size } := ⟨_, rfl⟩
  obtain ⟨V, hV⟩ : ∃ V, (w.alloc (.deferred (some []))).alloc (.loop (R .ready none)) = V := ⟨_, rfl⟩
  have bV : Book w (R .ready none) V := by
    rw [← hV]
    refine ⟨?_, (Below.heap_alloc _ _ _ (by simp)).trans (World.alloc_heap_new w _)⟩
    have := World.alloc_heap_new (w.alloc (.deferred (some []))) (.loop (R .ready none))
    rwa [World.size_alloc] at this
  have iV : I [] V := by rw [← hV]; exact hI.alloc _ (hI.alloc _ h0)
  have sV : w.heap.size ≤ V.heap.size := by rw [← hV]; simp; omega
  have cV : Below w0.heap.size w0 V := by
    rw [← hV]; exact hb0.trans ((((Below.refl _ w).alloc (Nat.le_refl _) _).alloc (by simp) _).mono hb0.size)
  refine ⟨w.heap.size + 1, [{ target := .collected w.heap.size, args := #[] }], V, { target := .fn (.func gf) lb, args := #[.func (.yield (w.heap.size + 1)) #[] #[]] }, V, gf,
    #[.func (.yield (w.heap.size + 1)) #[] #[]] ++ lb, V, by rw [← hV, hR]; exact run_enterLoop_outer _ _ _ _ _, by simp only [resolve, hg]; simp [go_sem], ?_, by simp [invoke, go_sem, eg], fun _ => h1, ?_⟩
  · intro f' hf'; simp [Target.leads] at hf'; subst hf'; exact hFg
  have far : ∀ {A : World} {rw : Option Nat}, (∀ r, rw = some r → V.heap.size ≤ r ∧ ∃ o : Obj, A.heap[r]? = some o ∧ o.isWalk = true) → (∀ r, rw = some r → w.heap.size ≤ r ∧ ∃ o : Obj, A.heap[r]? = some o ∧ o.isCells = false) := by
    intro A rw hr r e
    obtain ⟨hB, o, ho, hw⟩ := hr r e
    exact ⟨Nat.le_trans sV hB, o, ho, Obj.not_cells_of_walk hw⟩
  refine (hseq (w.heap.size + 1) (fun pre W => I pre W ∧ Book w (R .ready none) W) (fun pre W => Ix pre W ∧ Book w (R .done (some (.exit 0))) W) V cV ?_ ?_ ?_ (fun s A h => hBd s A h.1) ?_ ⟨iV, bV⟩).mono ?_
  · rintro s A B row' ⟨i, b⟩ hg' hr
    exact ⟨hI s A B row' i hg' (far hr), (grownBy_keeps hg' (fun r e => (hr r e).2) b.1 rfl).trans b.1, (grownBy_keeps hg' (fun r e => (hr r e).2) b.2 rfl).trans b.2⟩
  · rintro s A B row' ⟨i, b⟩ hg' hr
    exact ⟨hIx s A B row' i hg' (far hr), (grownBy_keeps hg' (fun r e => (hr r e).2) b.1 rfl).trans b.1, (grownBy_keeps hg' (fun r e => (hr r e).2) b.2 rfl).trans b.2⟩
  · rintro s A B ⟨i, b⟩ hg'
    exact ⟨hIg s A B i hg', b.grown hg' hrow⟩
  · rintro pre x W ⟨i, b⟩ hm
    have hy := run_yield (P := P) (args := encs x) b.1 (by rw [hR]; exact hps x)
    rw [hR] at hy
    refine ⟨fn, _, assign, body, hy, roundIn_of_wpIn hfn (wpIn_mono (hround _ pre x W i hm) ?_)⟩
    rintro e a1 W1 hp
    cases e with
    | normal =>
      obtain ⟨hg1, hb1⟩ := hp
      have none0 : ∀ r, (none : Option Nat) = some r → w.heap.size ≤ r ∧ ∃ o : Obj, W.heap[r]? = some o ∧ o.isCells = false := fun r e => by cases e
      have b1 : Book w (R .ready none) W1 := b.grown hg1 (fun k e => by cases e)
      have i1 := hI pre W W1 none i hg1 none0
      have m1 := hMk (pre, x) W W1 none hm hg1 none0
      have u1 : Upd w.heap.size W1 (W1.putObj (w.heap.size + 1) (.loop { R .ready none with state := .busy })) := ⟨w.heap.size + 1, _, b1.1, rfl, by omega, grownBy_putObj' _ _ _⟩
      have b2 := b1.put { R .ready none with state := .busy }
      refine ⟨_, run_beginRound b1.1 (by rw [hR]), ?_⟩
      have k2 : Kp W (W1.putObj (w.heap.size + 1) (.loop { R .ready none with state := .busy })) := hKt (hKg _ _ hg1) (hKb W1 (w.heap.size + 1) _ _ (by omega) b1.1 rfl)
      refine wpIn_mono (hb1 _ u1 (u1.own hI i1) (u1.own (s := (pre, x)) hMk m1)) ?_
      rintro e a3 W3 hp
      cases e with
      | normal =>
        obtain ⟨ko, kp, i3⟩ := hp
        have b3 := b2.keep ko
        have he := run_endRound (P := P) (none : Option Code) b3.1
        have b4 := b3.put (R .ready none)
        rw [hR] at he b4 b3
        refine ⟨_, _, he, .inl ⟨rfl, ⟨hI.putObj _ i3 (by omega) b3.1 rfl, ?_⟩, hKt (hKt (by rw [hR] at k2; exact k2) (by rw [hR] at kp; exact kp)) (hKb _ _ _ _ (by omega) b3.1 rfl)⟩⟩
        rw [hR]
        exact b4
      | exit id =>
        obtain ⟨rfl, ko, i3⟩ := hp
        have b3 := b2.keep ko
        have he := run_endRound (P := P) (some (Code.exit 0)) b3.1
        have b4 := b3.put (R .done (some (.exit 0)))
        rw [hR] at he b4 b3
        refine ⟨_, _, he, .inr ⟨rfl, hIx.putObj _ i3 (by omega) b3.1 rfl, ?_⟩⟩
        rw [hR]
        exact b4
      | ret => exact hp.elim
      | goto t => exact hp.elim
      | panic ch => exact hp.elim
      | outgrown => exact hp.elim
    | ret => exact hp.elim
    | exit id => exact hp.elim
    | goto t => exact hp.elim
    | panic ch => exact hp.elim
    | outgrown => exact hp.elim
  · rintro e W2 ⟨⟨v, rfl⟩, (⟨xs, hS, ⟨i, b⟩, ed⟩ | ⟨pre, hSp, i, b⟩)⟩
    · have he := run_endLoop (P := P) b.1 (by rw [hR]; simp)
      rw [hR] at he
      exact ⟨none, _, he, hdone _ xs _ (Nat.le_refl _) hS (hI.putObj _ i (by omega) b.1 rfl) (hEd.putObj (s := ()) _ ed (by omega) b.1 rfl) ((World.putObj_heap_other (by omega)).trans b.2)⟩
    · have he := run_endLoop (P := P) b.1 (by rw [hR]; simp)
      rw [hR] at he
      exact ⟨some (.exit 0), _, he, hstop _ pre _ (Nat.le_refl _) hSp (hIx.putObj _ i (by omega) b.1 rfl) ((World.putObj_heap_other (by omega)).trans b.2)⟩
end
end Go.Proofs.YtjdpeedghpblgaaGreatDoor
/- Package hand: a reader that takes bytes off a text, and gives up by a panic. -/
set_option linter.all false
set_option maxRecDepth 100000
namespace Go.Proofs.YtjdpeedghpblgaaGreatDoor
open Go.RowKit Go.Sort
/-- A reader's place. -/
abbrev rp (p : Nat) : Value := .pointer (some ⟨p, 0, none⟩)
/-- What is given up with. -/
abbrev pk (e : Int) : List PanicEntry := [{ v := .iface 31 (.int .i64 e), recovered := false }]
/-- A reader has this left, and says this where it is short. -/
structure Rdr (w : World) (p : Nat) (s : ByteArray) (e : Int) : Prop where
  l : w.cell? ⟨p, 0, none⟩ = some (.string s)
  k : w.cell? ⟨p, 1, none⟩ = some (.int .i64 e)
  z : w.frozen? ⟨p, 0, none⟩ = false
set_option maxHeartbeats 1000000 in
theorem take_no (p : Nat) (s : ByteArray) (e n : Int) (w : World) (h : Rdr w p s e) (hn : (s.size : Int) < n) :
    Calls Tryz.prog 56 #[rp p, .int .i64 n] w fun x w' => x = .panicked (pk e) ∧ w' = w := by
  obtain ⟨h1, h2, h3⟩ := h
  go_enter Tryz.func56, Tryz.ntmps56
  go_wp2
  exact ⟨rfl, rfl, rfl⟩
set_option maxHeartbeats 1000000 in
theorem take_ok (p : Nat) (s : ByteArray) (e : Int) (n : Nat) (w : World) (h : Rdr w p s e) (hn : n ≤ s.size) :
    Calls Tryz.prog 56 #[rp p, .int .i64 (n : Int)] w fun x w' => x = .returned (.string (s.extract 0 n)) ∧ w' = w.setCell ⟨p, 0, none⟩ (.string (s.extract n s.size)) := by
  obtain ⟨h1, h2, h3⟩ := h
  have hn' : ¬ (s.size : Int) < (n : Int) := by omega
  go_enter Tryz.func56, Tryz.ntmps56
  go_wp2
  go_ret
  exact ⟨rfl, rfl⟩
end Go.Proofs.YtjdpeedghpblgaaGreatDoor
