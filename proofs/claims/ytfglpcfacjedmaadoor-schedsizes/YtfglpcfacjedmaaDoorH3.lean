/- The reference's Info; both as one. -/
import Derived.Test.YtfglpcfacjedmaaDoorH2
set_option linter.all false
set_option maxRecDepth 100000
namespace Go.Proofs.YtfglpcfacjedmaaDoor
open Go.RowKit Go.Sort
theorem rinfo_num (l c : ByteArray) (n : Int) (hn : n < 0 ∨ 65535 < n) (w : World) : Calls Tryd.prog 39 #[.string l, .string c, .int .i64 n] w fun e w' => e = .returned (.tuple #[.string ⟨#[]⟩, .int .i64 13]) ∧ Below w.heap.size w w' := by
  rcases hn with h | h
  · go_enter Tryd.func39, Tryd.ntmps39
    go_wp2_with fail
    refine bodyPost_ret (v := .tuple #[.string ⟨#[]⟩, .int .i64 13]) (by simp [results, Tryd.results39, go_sem]) rfl ?_
    exact ⟨rfl, Below.refl _ _⟩
  · go_enter Tryd.func39, Tryd.ntmps39
    go_wp2_with fail
    refine bodyPost_ret (v := .tuple #[.string ⟨#[]⟩, .int .i64 13]) (by simp [results, Tryd.results39, go_sem]) rfl ?_
    exact ⟨rfl, Below.refl _ _⟩
theorem rinfo_long (l c : ByteArray) (hl : l.size ≤ maxLen) (hc : c.size ≤ maxLen) (n : Int) (h0 : 0 ≤ n) (h1 : n ≤ 65535) (h : 249 < l.size ∨ 255 < c.size) (w : World) : Calls Tryd.prog 39 #[.string l, .string c, .int .i64 n] w fun e w' => e = .returned (.tuple #[.string ⟨#[]⟩, .int .i64 12]) ∧ Below w.heap.size w w' := by
  unfold maxLen at hl hc
  rcases h with h | h
  · have i1 : (249 : Int) < (l.size : Int) := by omega
    go_enter Tryd.func39, Tryd.ntmps39
    go_wp2_with fail
    refine bodyPost_ret (v := .tuple #[.string ⟨#[]⟩, .int .i64 12]) (by simp [results, Tryd.results39, go_sem]) rfl ?_
    exact ⟨rfl, Below.refl _ _⟩
  · have i1 : (255 : Int) < (c.size : Int) := by omega
    by_cases i2 : (249 : Int) < (l.size : Int)
    · go_enter Tryd.func39, Tryd.ntmps39
      go_wp2_with fail
      refine bodyPost_ret (v := .tuple #[.string ⟨#[]⟩, .int .i64 12]) (by simp [results, Tryd.results39, go_sem]) rfl ?_
      exact ⟨rfl, Below.refl _ _⟩
    · go_enter Tryd.func39, Tryd.ntmps39
      go_wp2_with fail
      refine bodyPost_ret (v := .tuple #[.string ⟨#[]⟩, .int .i64 12]) (by simp [results, Tryd.results39, go_sem]) rfl ?_
      exact ⟨rfl, Below.refl _ _⟩
set_option maxHeartbeats 1000000 in
theorem rinfo_core (l c A B : ByteArray) (n : Int) (h0 : 0 ≤ n) (h1 : n ≤ 65535) (hl : l.size ≤ 249) (hc : c.size ≤ 255) (w : World)
    (hA : A = mkS [n / 256, n % 256, (l.size : Int) + 6]) (hB : B = mkS [(c.size : Int)]) :
    Calls Tryd.prog 39 #[.string l, .string c, .int .i64 n] w fun e w' => e = .returned (.tuple #[.string (A ++ tls ++ l ++ B ++ c), .int .i64 0]) ∧ Below w.heap.size w w' := by
  have i1 : ¬ (249 : Int) < (l.size : Int) := by omega
  have i2 : ¬ (255 : Int) < (c.size : Int) := by omega
  have zA : A.size = 3 := by rw [hA, mkS_size]; rfl
  have zB : B.size = 1 := by rw [hB, mkS_size]; rfl
  have cA := convC (w.alloc (.cells #[.int .u8 (n / 256), .int .u8 (n % 256), .int .u8 ((l.size : Int) + 6)] 5)) w.heap.size 3 3 [n / 256, n % 256, (l.size : Int) + 6] rfl (news_new w [.int .u8 (n / 256), .int .u8 (n % 256), .int .u8 ((l.size : Int) + 6)] 5)
  have cB := convC ((w.alloc (.cells #[.int .u8 (n / 256), .int .u8 (n % 256), .int .u8 ((l.size : Int) + 6)] 5)).alloc (.cells #[.int .u8 (c.size : Int)] 5)) (w.heap.size + 1) 1 1 [(c.size : Int)] rfl (by have := news_new (w.alloc (.cells #[.int .u8 (n / 256), .int .u8 (n % 256), .int .u8 ((l.size : Int) + 6)] 5)) [.int .u8 (c.size : Int)] 5; rwa [World.size_alloc] at this)
  rw [← hA] at cA
  rw [← hB] at cB
  clear hA hB
  unfold tls
  go_enter Tryd.func39, Tryd.ntmps39
  go_wp2_with fail

  refine bodyPost_ret (v := .tuple #[.string (A ++ ⟨#[116, 108, 115, 49, 51, 32]⟩ ++ l ++ B ++ c), .int .i64 0]) (by simp [results, Tryd.results39, go_sem]) rfl ?_
  exact ⟨rfl, by go_grown⟩
/-- What Info answers: its text and its error. -/
def infE (l c : ByteArray) (n : Int) : Int := if n < 0 ∨ 65535 < n then 13 else if 249 < l.size ∨ 255 < c.size then 12 else 0
def infT (l c : ByteArray) (n : Int) : ByteArray := by1 (n / 256) ++ by1 n ++ ctS (tls ++ l) ++ ctS c
def infS (l c : ByteArray) (n : Int) : ByteArray := if infE l c n = 0 then infT l c n else ⟨#[]⟩
theorem infE_cases (l c : ByteArray) (n : Int) : ((n < 0 ∨ 65535 < n) ∧ infE l c n = 13 ∧ infS l c n = ⟨#[]⟩) ∨ (0 ≤ n ∧ n ≤ 65535 ∧ (249 < l.size ∨ 255 < c.size) ∧ infE l c n = 12 ∧ infS l c n = ⟨#[]⟩) ∨ (0 ≤ n ∧ n ≤ 65535 ∧ l.size ≤ 249 ∧ c.size ≤ 255 ∧ infE l c n = 0 ∧ infS l c n = infT l c n) := by
  by_cases h : n < 0 ∨ 65535 < n
  · have e : infE l c n = 13 := by unfold infE; rw [if_pos h]
    exact .inl ⟨h, e, by unfold infS; rw [e]; rfl⟩
  · by_cases h2 : 249 < l.size ∨ 255 < c.size
    · have e : infE l c n = 12 := by unfold infE; rw [if_neg h, if_pos h2]
      exact .inr (.inl ⟨by omega, by omega, h2, e, by unfold infS; rw [e]; rfl⟩)
    · have e : infE l c n = 0 := by unfold infE; rw [if_neg h, if_neg h2]
      exact .inr (.inr ⟨by omega, by omega, by omega, by omega, e, by unfold infS; rw [if_pos e]⟩)
theorem info_any (l c : ByteArray) (hl : l.size ≤ maxLen) (hc : c.size ≤ maxLen) (n : Int) (w : World) : Calls Tryd.prog 46 #[.string l, .string c, .int .i64 n] w fun e w' => e = .returned (.tuple #[.string (infS l c n), .int .i64 (infE l c n)]) ∧ Below w.heap.size w w' := by
  rcases infE_cases l c n with ⟨h, e1, e2⟩ | ⟨a, b, h, e1, e2⟩ | ⟨a, b, p, q, e1, e2⟩
  · rw [e1, e2]; exact info_num l c n h w
  · rw [e1, e2]; exact info_long l c hl hc n a b h w
  · rw [e1, e2]
    unfold infT
    have z := ctS_size (tls ++ l)
    rw [ByteArray.size_append, tls_size] at z
    have z2 := ctS_size c
    exact info_core l c _ _ _ _ _ rfl n a b p q w (by1_size _) (by1_size _) (by omega) (by omega) (fun W => byteOf_any _ W) (fun W => byteOf_any _ W) (fun W => counted_any _ (by rw [ByteArray.size_append, tls_size]; omega) W) (fun W => counted_any _ (by omega) W)
theorem infT_list (l c : ByteArray) (n : Int) : (infT l c n).data.toList = [UInt8.ofNat (n / 256 % 256).toNat, UInt8.ofNat (n % 256).toNat, UInt8.ofNat (((6 + l.size : Nat) : Int) % 256).toNat] ++ tls.data.toList ++ l.data.toList ++ [UInt8.ofNat ((c.size : Int) % 256).toNat] ++ c.data.toList := by
  unfold infT ctS by1
  simp only [ByteArray.data_append, Array.toList_append, mkS_list, List.map_cons, List.map_nil, List.append_assoc, ByteArray.size_append, tls_size]
  rfl
theorem rinfo_any (l c : ByteArray) (hl : l.size ≤ maxLen) (hc : c.size ≤ maxLen) (n : Int) (w : World) : Calls Tryd.prog 39 #[.string l, .string c, .int .i64 n] w fun e w' => e = .returned (.tuple #[.string (infS l c n), .int .i64 (infE l c n)]) ∧ Below w.heap.size w w' := by
  rcases infE_cases l c n with ⟨h, e1, e2⟩ | ⟨a, b, h, e1, e2⟩ | ⟨a, b, p, q, e1, e2⟩
  · rw [e1, e2]; exact rinfo_num l c n h w
  · rw [e1, e2]; exact rinfo_long l c hl hc n a b h w
  · rw [e1, e2]
    have e : infT l c n = mkS [n / 256, n % 256, (l.size : Int) + 6] ++ tls ++ l ++ mkS [(c.size : Int)] ++ c := by
      apply ba_ext
      rw [infT_list, show n / 256 % 256 = n / 256 by omega, show ((6 + l.size : Nat) : Int) % 256 = (l.size : Int) + 6 by omega, show (c.size : Int) % 256 = (c.size : Int) by omega]
      simp only [ByteArray.data_append, Array.toList_append, mkS_list, List.map_cons, List.map_nil, List.append_assoc]
    rw [e]
    exact rinfo_core l c _ _ n a b p q w rfl rfl
end Go.Proofs.YtfglpcfacjedmaaDoor
