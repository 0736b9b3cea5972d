/- Texts joined: D9, D10. -/
import Derived.Deep.Cut
import Derived.Test.YtoolbnbfbegjaaaGreatJ37
import Derived.Test.YtoolbnbfbegjaaaGreatJ38
set_option linter.all false
set_option maxRecDepth 100000
namespace Go.Proofs.YtoolbnbfbegjaaaGreat
open Go.RowKit Go.Sort
variable [NeZero pN]
open NT
theorem pubE_ok (P : Cpt pN) (hP : OnC am bm P) (hne : P ≠ none) : pubE (ptx P) (pty P) (pti P) = 0 := by
  have i : pti P = false := by
    cases h : pti P
    · rfl
    · exact absurd ((pti_none P).1 h) hne
  have o : onB (ptx P) (pty P) (pti P) = true := (onB_iff _ _ _ (cx_bw P).inn (cy_bw P).inn).2 ⟨P, ⟨rfl, rfl, rfl⟩, hP⟩
  unfold pubE
  rw [i] at o ⊢
  simp [o]
theorem check_ok (P : Cpt pN) (hP : OnC am bm P) (hne : P ≠ none) (s : ByteArray) (hs : s.size ≤ maxLen) (h32 : s.size = 32) (R S I : Int) (hR : Inn R) (hS : Inn S) (uR : unB R = true) (uS : unB S = true) (iv : IV S nn I true) (W : World) :
    Calls Tryz.prog 14 #[pvP P, .string s, gv R S] W fun e w' => e = .returned (.int .i64 (hldE P (fbN s) R I)) ∧ Below W.heap.size W w' := by
  have k := check_l (ptx P) (pty P) R S (hldE P (fbN s) R I) (pti P) s (cx_bw P).inn (cy_bw P).inn hR hS W (fun _ _ _ _ V g1 g2 g3 => hld_u P hP s hs R S I hR hS iv g1 g2 g3 V)
  have e1 := pubE_ok P hP hne
  have e2 : digE s = 0 := by simp [digE, h32]
  have e3 : unE R = 0 := by simp [unE, uR]
  have e4 : unE S = 0 := by simp [unE, uS]
  have e5 : (if hldE P (fbN s) R I = 0 then 0 else hldE P (fbN s) R I) = hldE P (fbN s) R I := by split <;> simp_all
  simp only [fL, e1, e2, e3, e4, if_true, e5] at k
  exact k
theorem if0 (d : Int) : (if d = 0 then 0 else d) = d := by
  by_cases h : d = 0
  · rw [if_pos h, h]
  · rw [if_neg h]
def ckB (X Y : Int) (i : Bool) (s : ByteArray) (R S : Int) : Int := if pubE X Y i = 0 then (if digE s = 0 then (if unE R = 0 then unE S else unE R) else digE s) else pubE X Y i
theorem check_bad (X Y R S : Int) (i : Bool) (s : ByteArray) (hX : Inn X) (hY : Inn Y) (hR : Inn R) (hS : Inn S) (h : ckB X Y i s R S ≠ 0) (W : World) :
    Calls Tryz.prog 14 #[pv X Y i, .string s, gv R S] W fun e w' => e = .returned (.int .i64 (ckB X Y i s R S)) ∧ Below W.heap.size W w' := by
  have k := check_l X Y R S 0 i s hX hY hR hS W (fun e1 e2 e3 e4 => absurd (by simp [ckB, e1, e2, e3, e4]) h)
  simp only [fL, ite_self, if0] at k
  exact k
set_option maxHeartbeats 4000000 in
theorem pub_first (D : Int) (hD : Inn D) (w : World) : Calls Tryz.prog 26 #[.slice (some ⟨w.heap.size + 1 + 1 + 1, 0, none⟩) 1 1] ((((w.alloc (.cells #[.int .u64 (lim (D) 0), .int .u64 (lim (D) 1), .int .u64 (lim (D) 2), .int .u64 (lim (D) 3)] 24)).alloc (.cells #[.int .u64 0, .int .u64 0, .int .u64 0, .int .u64 0, .int .u64 0, .int .u64 0, .int .u64 0, .int .u64 0, .bool false] 28)).alloc (.cells #[.int .u64 (lim (D) 0), .int .u64 (lim (D) 1), .int .u64 (lim (D) 2), .int .u64 (lim (D) 3)] 24)).alloc (.cells #[.func (.func 50) #[] #[.pointer (some ⟨w.heap.size + 1 + 1, 0, none⟩)]] 55)) fun e w' => e = .returned (.int .i64 (unE D)) ∧ Below ((((w.alloc (.cells #[.int .u64 (lim (D) 0), .int .u64 (lim (D) 1), .int .u64 (lim (D) 2), .int .u64 (lim (D) 3)] 24)).alloc (.cells #[.int .u64 0, .int .u64 0, .int .u64 0, .int .u64 0, .int .u64 0, .int .u64 0, .int .u64 0, .int .u64 0, .bool false] 28)).alloc (.cells #[.int .u64 (lim (D) 0), .int .u64 (lim (D) 1), .int .u64 (lim (D) 2), .int .u64 (lim (D) 3)] 24)).alloc (.cells #[.func (.func 50) #[] #[.pointer (some ⟨w.heap.size + 1 + 1, 0, none⟩)]] 55)).heap.size ((((w.alloc (.cells #[.int .u64 (lim (D) 0), .int .u64 (lim (D) 1), .int .u64 (lim (D) 2), .int .u64 (lim (D) 3)] 24)).alloc (.cells #[.int .u64 0, .int .u64 0, .int .u64 0, .int .u64 0, .int .u64 0, .int .u64 0, .int .u64 0, .int .u64 0, .bool false] 28)).alloc (.cells #[.int .u64 (lim (D) 0), .int .u64 (lim (D) 1), .int .u64 (lim (D) 2), .int .u64 (lim (D) 3)] 24)).alloc (.cells #[.func (.func 50) #[] #[.pointer (some ⟨w.heap.size + 1 + 1, 0, none⟩)]] 55)) w' := by
  have F2 : Arr (((((w.alloc (.cells #[.int .u64 (lim (D) 0), .int .u64 (lim (D) 1), .int .u64 (lim (D) 2), .int .u64 (lim (D) 3)] 24)).alloc (.cells #[.int .u64 0, .int .u64 0, .int .u64 0, .int .u64 0, .int .u64 0, .int .u64 0, .int .u64 0, .int .u64 0, .bool false] 28)).alloc (.cells #[.int .u64 (lim (D) 0), .int .u64 (lim (D) 1), .int .u64 (lim (D) 2), .int .u64 (lim (D) 3)] 24)).alloc (.cells #[.func (.func 50) #[] #[.pointer (some ⟨w.heap.size + 1 + 1, 0, none⟩)]] 55))) (w.heap.size + 1 + 1) 4 (fun j => .int .u64 (lim (D) j)) := by refine Arr.mk4 ?_ ?_ ?_ ?_ ?_ ?_ ?_ ?_ <;> simp [go_sem, px, sgx]
  have k := first_list [(50, #[.pointer (some ⟨w.heap.size + 1 + 1, 0, none⟩)], unE D)] (w.heap.size + 1 + 1 + 1) (((((w.alloc (.cells #[.int .u64 (lim (D) 0), .int .u64 (lim (D) 1), .int .u64 (lim (D) 2), .int .u64 (lim (D) 3)] 24)).alloc (.cells #[.int .u64 0, .int .u64 0, .int .u64 0, .int .u64 0, .int .u64 0, .int .u64 0, .int .u64 0, .int .u64 0, .bool false] 28)).alloc (.cells #[.int .u64 (lim (D) 0), .int .u64 (lim (D) 1), .int .u64 (lim (D) 2), .int .u64 (lim (D) 3)] 24)).alloc (.cells #[.func (.func 50) #[] #[.pointer (some ⟨w.heap.size + 1 + 1, 0, none⟩)]] 55))) ?_ ?_ ?_ ?_ ?_
  · have e : (if unE D = 0 then 0 else unE D) = unE D := by split <;> simp_all
    simp only [fL, e] at k
    exact k
  · simp
  · simp [go_sem]
  · intro j hj
    have h : j = 0 := by simp only [List.length] at hj; omega
    rcases h with rfl <;> simp [go_sem]
  · intro x hx
    simp only [List.mem_cons, List.not_mem_nil, or_false] at hx
    subst hx
    exact enter50 _
  · exact ⟨fun V hb => unit_u D hD _ V (Arr.to' F2 hb), fun _ => trivial⟩
theorem pub_ok (D : Int) (hD : Inn D) (u : unB D = true) (W : World) : Calls Tryz.prog 7 #[nv D] W fun e w' => e = .returned (.tuple #[pvP (mu am D.toNat gP), .int .i64 0]) ∧ Below W.heap.size W w' := by
  have m := mul_pt D hD gP g_on
  rw [pvP_g] at m
  have f := pub_first D hD W
  have e : unE D = 0 := by simp [unE, u]
  rw [e] at f
  exact public_yes D gx gy _ _ false _ _ W (mk_unit D) f base_any m
theorem pub_bad (D : Int) (hD : Inn D) (u : unB D = false) (W : World) : Calls Tryz.prog 7 #[nv D] W fun e w' => e = .returned (.tuple #[.agg #[.int .u64 0, .int .u64 0, .int .u64 0, .int .u64 0, .int .u64 0, .int .u64 0, .int .u64 0, .int .u64 0, .bool false], .int .i64 13]) ∧ Below W.heap.size W w' := by
  have f := pub_first D hD W
  have e : unE D = 13 := by simp [unE, u]
  rw [e] at f
  exact public_no D 13 (by decide) _ W (mk_unit D) f
def sgB (D K : Int) (s : ByteArray) : Int := if unE D = 0 then (if unE K = 0 then digE s else unE K) else unE D
theorem if3 (a b c : Int) : (if a = 0 then (if b = 0 then (if c = 0 then 0 else c) else b) else a) = (if a = 0 then (if b = 0 then c else b) else a) := by
  by_cases h : c = 0
  · rw [if_pos h, h]
  · rw [if_neg h]
theorem if2 (a b : Int) : (if a = 0 then (if b = 0 then 0 else b) else a) = (if a = 0 then b else a) := by
  by_cases h : b = 0
  · rw [if_pos h, h]
  · rw [if_neg h]
set_option maxHeartbeats 8000000 in
theorem sgn_first (D K : Int) (s : ByteArray) (hD : Inn D) (hK : Inn K) (w : World) : Calls Tryz.prog 26 #[.slice (some ⟨w.heap.size + 1 + 1 + 1 + 1 + 1 + 1, 0, none⟩) 3 3] ((((((((w.alloc (.cells #[.int .u64 (lim (D) 0), .int .u64 (lim (D) 1), .int .u64 (lim (D) 2), .int .u64 (lim (D) 3)] 24)).alloc (.cells #[.int .u64 (lim (K) 0), .int .u64 (lim (K) 1), .int .u64 (lim (K) 2), .int .u64 (lim (K) 3)] 24)).alloc (.cells #[.int .u64 0, .int .u64 0, .int .u64 0, .int .u64 0, .int .u64 0, .int .u64 0, .int .u64 0, .int .u64 0] 26)).alloc (.cells #[.int .u64 (lim (D) 0), .int .u64 (lim (D) 1), .int .u64 (lim (D) 2), .int .u64 (lim (D) 3)] 24)).alloc (.cells #[.int .u64 (lim (K) 0), .int .u64 (lim (K) 1), .int .u64 (lim (K) 2), .int .u64 (lim (K) 3)] 24)).alloc (.cells #[.string s] 9)).alloc (.cells #[.func (.func 50) #[] #[.pointer (some ⟨w.heap.size + 1 + 1 + 1, 0, none⟩)], .func (.func 50) #[] #[.pointer (some ⟨w.heap.size + 1 + 1 + 1 + 1, 0, none⟩)], .func (.func 56) #[] #[.pointer (some ⟨w.heap.size + 1 + 1 + 1 + 1 + 1, 0, none⟩)]] 55)).drew) fun e w' => e = .returned (.int .i64 (sgB D K s)) ∧ Below ((((((((w.alloc (.cells #[.int .u64 (lim (D) 0), .int .u64 (lim (D) 1), .int .u64 (lim (D) 2), .int .u64 (lim (D) 3)] 24)).alloc (.cells #[.int .u64 (lim (K) 0), .int .u64 (lim (K) 1), .int .u64 (lim (K) 2), .int .u64 (lim (K) 3)] 24)).alloc (.cells #[.int .u64 0, .int .u64 0, .int .u64 0, .int .u64 0, .int .u64 0, .int .u64 0, .int .u64 0, .int .u64 0] 26)).alloc (.cells #[.int .u64 (lim (D) 0), .int .u64 (lim (D) 1), .int .u64 (lim (D) 2), .int .u64 (lim (D) 3)] 24)).alloc (.cells #[.int .u64 (lim (K) 0), .int .u64 (lim (K) 1), .int .u64 (lim (K) 2), .int .u64 (lim (K) 3)] 24)).alloc (.cells #[.string s] 9)).alloc (.cells #[.func (.func 50) #[] #[.pointer (some ⟨w.heap.size + 1 + 1 + 1, 0, none⟩)], .func (.func 50) #[] #[.pointer (some ⟨w.heap.size + 1 + 1 + 1 + 1, 0, none⟩)], .func (.func 56) #[] #[.pointer (some ⟨w.heap.size + 1 + 1 + 1 + 1 + 1, 0, none⟩)]] 55)).drew).heap.size ((((((((w.alloc (.cells #[.int .u64 (lim (D) 0), .int .u64 (lim (D) 1), .int .u64 (lim (D) 2), .int .u64 (lim (D) 3)] 24)).alloc (.cells #[.int .u64 (lim (K) 0), .int .u64 (lim (K) 1), .int .u64 (lim (K) 2), .int .u64 (lim (K) 3)] 24)).alloc (.cells #[.int .u64 0, .int .u64 0, .int .u64 0, .int .u64 0, .int .u64 0, .int .u64 0, .int .u64 0, .int .u64 0] 26)).alloc (.cells #[.int .u64 (lim (D) 0), .int .u64 (lim (D) 1), .int .u64 (lim (D) 2), .int .u64 (lim (D) 3)] 24)).alloc (.cells #[.int .u64 (lim (K) 0), .int .u64 (lim (K) 1), .int .u64 (lim (K) 2), .int .u64 (lim (K) 3)] 24)).alloc (.cells #[.string s] 9)).alloc (.cells #[.func (.func 50) #[] #[.pointer (some ⟨w.heap.size + 1 + 1 + 1, 0, none⟩)], .func (.func 50) #[] #[.pointer (some ⟨w.heap.size + 1 + 1 + 1 + 1, 0, none⟩)], .func (.func 56) #[] #[.pointer (some ⟨w.heap.size + 1 + 1 + 1 + 1 + 1, 0, none⟩)]] 55)).drew) w' := by
  obtain ⟨W0, hW0⟩ : ∃ W0, W0 = ((((((((w.alloc (.cells #[.int .u64 (lim (D) 0), .int .u64 (lim (D) 1), .int .u64 (lim (D) 2), .int .u64 (lim (D) 3)] 24)).alloc (.cells #[.int .u64 (lim (K) 0), .int .u64 (lim (K) 1), .int .u64 (lim (K) 2), .int .u64 (lim (K) 3)] 24)).alloc (.cells #[.int .u64 0, .int .u64 0, .int .u64 0, .int .u64 0, .int .u64 0, .int .u64 0, .int .u64 0, .int .u64 0] 26)).alloc (.cells #[.int .u64 (lim (D) 0), .int .u64 (lim (D) 1), .int .u64 (lim (D) 2), .int .u64 (lim (D) 3)] 24)).alloc (.cells #[.int .u64 (lim (K) 0), .int .u64 (lim (K) 1), .int .u64 (lim (K) 2), .int .u64 (lim (K) 3)] 24)).alloc (.cells #[.string s] 9)).alloc (.cells #[.func (.func 50) #[] #[.pointer (some ⟨w.heap.size + 1 + 1 + 1, 0, none⟩)], .func (.func 50) #[] #[.pointer (some ⟨w.heap.size + 1 + 1 + 1 + 1, 0, none⟩)], .func (.func 56) #[] #[.pointer (some ⟨w.heap.size + 1 + 1 + 1 + 1 + 1, 0, none⟩)]] 55)).drew) := ⟨_, rfl⟩
  have F3 : Arr W0 (w.heap.size + 1 + 1 + 1) 4 (fun j => .int .u64 (lim (D) j)) := by subst hW0; refine Arr.mk4 ?_ ?_ ?_ ?_ ?_ ?_ ?_ ?_ <;> simp [go_sem, px, sgx]
  have F4 : Arr W0 (w.heap.size + 1 + 1 + 1 + 1) 4 (fun j => .int .u64 (lim (K) j)) := by subst hW0; refine Arr.mk4 ?_ ?_ ?_ ?_ ?_ ?_ ?_ ?_ <;> simp [go_sem, px, sgx]
  have F5 : Arr W0 (w.heap.size + 1 + 1 + 1 + 1 + 1) 1 (fun _ => .string s) := by subst hW0; refine Arr.mk1 ?_ ?_ <;> simp [go_sem, px, sgx]
  subst hW0
  have k := first_list [(50, #[.pointer (some ⟨w.heap.size + 1 + 1 + 1, 0, none⟩)], unE D), (50, #[.pointer (some ⟨w.heap.size + 1 + 1 + 1 + 1, 0, none⟩)], unE K), (56, #[.pointer (some ⟨w.heap.size + 1 + 1 + 1 + 1 + 1, 0, none⟩)], digE s)] (w.heap.size + 1 + 1 + 1 + 1 + 1 + 1) ((((((((w.alloc (.cells #[.int .u64 (lim (D) 0), .int .u64 (lim (D) 1), .int .u64 (lim (D) 2), .int .u64 (lim (D) 3)] 24)).alloc (.cells #[.int .u64 (lim (K) 0), .int .u64 (lim (K) 1), .int .u64 (lim (K) 2), .int .u64 (lim (K) 3)] 24)).alloc (.cells #[.int .u64 0, .int .u64 0, .int .u64 0, .int .u64 0, .int .u64 0, .int .u64 0, .int .u64 0, .int .u64 0] 26)).alloc (.cells #[.int .u64 (lim (D) 0), .int .u64 (lim (D) 1), .int .u64 (lim (D) 2), .int .u64 (lim (D) 3)] 24)).alloc (.cells #[.int .u64 (lim (K) 0), .int .u64 (lim (K) 1), .int .u64 (lim (K) 2), .int .u64 (lim (K) 3)] 24)).alloc (.cells #[.string s] 9)).alloc (.cells #[.func (.func 50) #[] #[.pointer (some ⟨w.heap.size + 1 + 1 + 1, 0, none⟩)], .func (.func 50) #[] #[.pointer (some ⟨w.heap.size + 1 + 1 + 1 + 1, 0, none⟩)], .func (.func 56) #[] #[.pointer (some ⟨w.heap.size + 1 + 1 + 1 + 1 + 1, 0, none⟩)]] 55)).drew) ?_ ?_ ?_ ?_ ?_
  · simp only [fL, if3] at k
    exact k
  · simp
  · simp [go_sem]
  · intro j hj
    have h : j = 0 ∨ j = 1 ∨ j = 2 := by simp only [List.length] at hj; omega
    rcases h with rfl | rfl | rfl <;> simp [go_sem]
  · intro x hx
    simp only [List.mem_cons, List.not_mem_nil, or_false] at hx
    rcases hx with rfl | rfl | rfl
    · exact enter50 _
    · exact enter50 _
    · exact enter56 _
  · exact ⟨fun V hb => unit_u D hD _ V (Arr.to' F3 hb), fun _ => ⟨fun V hb => unit_u K hK _ V (Arr.to' F4 hb), fun _ => ⟨fun V hb => dig_u s _ V (Arr.to' F5 hb), fun _ => trivial⟩⟩⟩
set_option maxHeartbeats 8000000 in
theorem sgn_second (R S : Int) (hR : Inn R) (hS : Inn S) (W : World) : Calls Tryz.prog 26 #[.slice (some ⟨W.heap.size + 1 + 1 + 1, 0, none⟩) 2 2] (((((W.alloc (.cells #[.int .u64 (lim (R) 0), .int .u64 (lim (R) 1), .int .u64 (lim (R) 2), .int .u64 (lim (R) 3), .int .u64 (lim (S) 0), .int .u64 (lim (S) 1), .int .u64 (lim (S) 2), .int .u64 (lim (S) 3)] 26)).alloc (.cells #[.int .u64 (lim (R) 0), .int .u64 (lim (R) 1), .int .u64 (lim (R) 2), .int .u64 (lim (R) 3)] 24)).alloc (.cells #[.int .u64 (lim (S) 0), .int .u64 (lim (S) 1), .int .u64 (lim (S) 2), .int .u64 (lim (S) 3)] 24)).alloc (.cells #[.func (.func 50) #[] #[.pointer (some ⟨W.heap.size + 1, 0, none⟩)], .func (.func 50) #[] #[.pointer (some ⟨W.heap.size + 1 + 1, 0, none⟩)]] 55)).drew) fun e w' => e = .returned (.int .i64 (if unE R = 0 then unE S else unE R)) ∧ Below (((((W.alloc (.cells #[.int .u64 (lim (R) 0), .int .u64 (lim (R) 1), .int .u64 (lim (R) 2), .int .u64 (lim (R) 3), .int .u64 (lim (S) 0), .int .u64 (lim (S) 1), .int .u64 (lim (S) 2), .int .u64 (lim (S) 3)] 26)).alloc (.cells #[.int .u64 (lim (R) 0), .int .u64 (lim (R) 1), .int .u64 (lim (R) 2), .int .u64 (lim (R) 3)] 24)).alloc (.cells #[.int .u64 (lim (S) 0), .int .u64 (lim (S) 1), .int .u64 (lim (S) 2), .int .u64 (lim (S) 3)] 24)).alloc (.cells #[.func (.func 50) #[] #[.pointer (some ⟨W.heap.size + 1, 0, none⟩)], .func (.func 50) #[] #[.pointer (some ⟨W.heap.size + 1 + 1, 0, none⟩)]] 55)).drew).heap.size (((((W.alloc (.cells #[.int .u64 (lim (R) 0), .int .u64 (lim (R) 1), .int .u64 (lim (R) 2), .int .u64 (lim (R) 3), .int .u64 (lim (S) 0), .int .u64 (lim (S) 1), .int .u64 (lim (S) 2), .int .u64 (lim (S) 3)] 26)).alloc (.cells #[.int .u64 (lim (R) 0), .int .u64 (lim (R) 1), .int .u64 (lim (R) 2), .int .u64 (lim (R) 3)] 24)).alloc (.cells #[.int .u64 (lim (S) 0), .int .u64 (lim (S) 1), .int .u64 (lim (S) 2), .int .u64 (lim (S) 3)] 24)).alloc (.cells #[.func (.func 50) #[] #[.pointer (some ⟨W.heap.size + 1, 0, none⟩)], .func (.func 50) #[] #[.pointer (some ⟨W.heap.size + 1 + 1, 0, none⟩)]] 55)).drew) w' := by
  obtain ⟨W0, hW0⟩ : ∃ W0, W0 = (((((W.alloc (.cells #[.int .u64 (lim (R) 0), .int .u64 (lim (R) 1), .int .u64 (lim (R) 2), .int .u64 (lim (R) 3), .int .u64 (lim (S) 0), .int .u64 (lim (S) 1), .int .u64 (lim (S) 2), .int .u64 (lim (S) 3)] 26)).alloc (.cells #[.int .u64 (lim (R) 0), .int .u64 (lim (R) 1), .int .u64 (lim (R) 2), .int .u64 (lim (R) 3)] 24)).alloc (.cells #[.int .u64 (lim (S) 0), .int .u64 (lim (S) 1), .int .u64 (lim (S) 2), .int .u64 (lim (S) 3)] 24)).alloc (.cells #[.func (.func 50) #[] #[.pointer (some ⟨W.heap.size + 1, 0, none⟩)], .func (.func 50) #[] #[.pointer (some ⟨W.heap.size + 1 + 1, 0, none⟩)]] 55)).drew) := ⟨_, rfl⟩
  have F1 : Arr W0 (W.heap.size + 1) 4 (fun j => .int .u64 (lim (R) j)) := by subst hW0; refine Arr.mk4 ?_ ?_ ?_ ?_ ?_ ?_ ?_ ?_ <;> simp [go_sem, px, sgx]
  have F2 : Arr W0 (W.heap.size + 1 + 1) 4 (fun j => .int .u64 (lim (S) j)) := by subst hW0; refine Arr.mk4 ?_ ?_ ?_ ?_ ?_ ?_ ?_ ?_ <;> simp [go_sem, px, sgx]
  subst hW0
  have k := first_list [(50, #[.pointer (some ⟨W.heap.size + 1, 0, none⟩)], unE R), (50, #[.pointer (some ⟨W.heap.size + 1 + 1, 0, none⟩)], unE S)] (W.heap.size + 1 + 1 + 1) (((((W.alloc (.cells #[.int .u64 (lim (R) 0), .int .u64 (lim (R) 1), .int .u64 (lim (R) 2), .int .u64 (lim (R) 3), .int .u64 (lim (S) 0), .int .u64 (lim (S) 1), .int .u64 (lim (S) 2), .int .u64 (lim (S) 3)] 26)).alloc (.cells #[.int .u64 (lim (R) 0), .int .u64 (lim (R) 1), .int .u64 (lim (R) 2), .int .u64 (lim (R) 3)] 24)).alloc (.cells #[.int .u64 (lim (S) 0), .int .u64 (lim (S) 1), .int .u64 (lim (S) 2), .int .u64 (lim (S) 3)] 24)).alloc (.cells #[.func (.func 50) #[] #[.pointer (some ⟨W.heap.size + 1, 0, none⟩)], .func (.func 50) #[] #[.pointer (some ⟨W.heap.size + 1 + 1, 0, none⟩)]] 55)).drew) ?_ ?_ ?_ ?_ ?_
  · simp only [fL, if2] at k
    exact k
  · simp
  · simp [go_sem]
  · intro j hj
    have h : j = 0 ∨ j = 1 := by simp only [List.length] at hj; omega
    rcases h with rfl | rfl <;> simp [go_sem]
  · intro x hx
    simp only [List.mem_cons, List.not_mem_nil, or_false] at hx
    rcases hx with rfl | rfl
    · exact enter50 _
    · exact enter50 _
  · exact ⟨fun V hb => unit_u R hR _ V (Arr.to' F1 hb), fun _ => ⟨fun V hb => unit_u S hS _ V (Arr.to' F2 hb), fun _ => trivial⟩⟩
def sgR (K : Int) : Int := nr (ptx (mu am K.toNat gP))
def sgS (D K I z : Int) : Int := nm I (na z (nm (sgR K) D))
theorem inn_sgR (K : Int) : Inn (sgR K) := inn_nr _
theorem inn_sgS (D K I z : Int) : Inn (sgS D K I z) := inn_nm _ _
theorem signed_u (D K I : Int) (s : ByteArray) (hs : s.size ≤ maxLen) (hD : Inn D) (hK : Inn K) (iv : IV K nn I true) (W : World) : Calls Tryz.prog 33 #[nv D, nv K, .string s] W fun e w' => e = .returned (gv (sgR K) (sgS D K I (fbN s))) ∧ Below W.heap.size W w' := by
  have m := mul_pt K hK gP g_on
  rw [pvP_g] at m
  exact signed_core D K gx gy _ _ (sgR K) (fbN s) (nm (sgR K) D) (na (fbN s) (nm (sgR K) D)) I _ false _ s W base_any m (eabs _ _ _ (cx_bw _).inn) (enum_u s hs) (emul _ _ (inn_sgR K) hD) (eadd _ _ (inn_fb s) (inn_nm _ _)) (einv K I hK iv) (emul _ _ (iv_mul iv).1 (inn_na _ _))
theorem sgn_bad (D K : Int) (s : ByteArray) (hD : Inn D) (hK : Inn K) (h : sgB D K s ≠ 0) (W : World) : Calls Tryz.prog 9 #[nv D, nv K, .string s] W fun e w' => e = .returned (.tuple #[.agg #[.int .u64 0, .int .u64 0, .int .u64 0, .int .u64 0, .int .u64 0, .int .u64 0, .int .u64 0, .int .u64 0], .int .i64 (sgB D K s)]) ∧ Below W.heap.size W w' :=
  sign_no D K _ h s _ _ _ W (mk_unit D) (mk_unit K) (mk_dig s) (sgn_first D K s hD hK W)
theorem sgn_zero (D K I : Int) (s : ByteArray) (hs : s.size ≤ maxLen) (hD : Inn D) (hK : Inn K) (iv : IV K nn I true) (h : sgB D K s = 0) (h2 : (if unE (sgR K) = 0 then unE (sgS D K I (fbN s)) else unE (sgR K)) ≠ 0) (W : World) :
    Calls Tryz.prog 9 #[nv D, nv K, .string s] W fun e w' => e = .returned (.tuple #[.agg #[.int .u64 0, .int .u64 0, .int .u64 0, .int .u64 0, .int .u64 0, .int .u64 0, .int .u64 0, .int .u64 0], .int .i64 (if unE (sgR K) = 0 then unE (sgS D K I (fbN s)) else unE (sgR K))]) ∧ Below W.heap.size W w' := by
  have f := sgn_first D K s hD hK W
  rw [h] at f
  exact sign_zero D K _ _ _ h2 s _ _ _ _ _ W (mk_unit D) (mk_unit K) (mk_dig s) f (signed_u D K I s hs hD hK iv) (mk_unit _) (mk_unit _) (sgn_second _ _ (inn_sgR K) (inn_sgS _ _ _ _))
theorem sgn_ok (D K I : Int) (s : ByteArray) (hs : s.size ≤ maxLen) (hD : Inn D) (hK : Inn K) (iv : IV K nn I true) (h : sgB D K s = 0) (h2 : (if unE (sgR K) = 0 then unE (sgS D K I (fbN s)) else unE (sgR K)) = 0) (W : World) :
    Calls Tryz.prog 9 #[nv D, nv K, .string s] W fun e w' => e = .returned (.tuple #[gv (sgR K) (sgS D K I (fbN s)), .int .i64 0]) ∧ Below W.heap.size W w' := by
  have f := sgn_first D K s hD hK W
  rw [h] at f
  exact sign_yes D K _ _ _ h2 s _ _ _ _ _ W (mk_unit D) (mk_unit K) (mk_dig s) f (signed_u D K I s hs hD hK iv) (mk_unit _) (mk_unit _) (sgn_second _ _ (inn_sgR K) (inn_sgS _ _ _ _))
end Go.Proofs.YtoolbnbfbegjaaaGreat
set_option maxRecDepth 100000
namespace Go.Proofs.YtoolbnbfbegjaaaGreat
open Go.RowKit Go.Sort
open NT
variable [NeZero pN]
theorem nm_nat {A B : Int} (hA : 0 ≤ A) (hB : 0 ≤ B) : (nm A B).toNat = A.toNat * B.toNat % nN := by
  obtain ⟨a, rfl⟩ := Int.eq_ofNat_of_zero_le hA
  obtain ⟨b, rfl⟩ := Int.eq_ofNat_of_zero_le hB
  unfold nm
  rw [nn_nN]
  have : ((a : Int) * (b : Int) % (nN : Int)) = ((a * b % nN : Nat) : Int) := by push_cast; rfl
  rw [this]; simp only [Int.toNat_natCast]
theorem Tq_nat (P : Cpt pN) {z R I : Int} (hz : 0 ≤ z) (hR : 0 ≤ R) (hI : 0 ≤ I) : Tq P z R I = ad am (mu am (z.toNat * I.toNat % nN) gP) (mu am (R.toNat * I.toNat % nN) P) := by
  unfold Tq
  rw [nm_nat hz hI, nm_nat hR hI]
theorem one_mod : 1 % nN = 1 := by decide +kernel
theorem iv_nat {S I : Int} (hS : 0 ≤ S) (iv : IV S nn I true) : S.toNat * I.toNat % nN = 1 % nN := by
  have h := (iv_mul iv).2
  have hI := (iv_mul iv).1.1
  obtain ⟨s, rfl⟩ := Int.eq_ofNat_of_zero_le hS
  obtain ⟨i, rfl⟩ := Int.eq_ofNat_of_zero_le hI
  rw [nn_nN] at h
  rw [one_mod]
  have : (((s * i % nN : Nat)) : Int) = 1 := by push_cast; exact h
  simp only [Int.toNat_natCast]
  omega
theorem sgn_nat {D K I z : Int} (hD : 0 ≤ D) (hK : 0 ≤ K) (hz : 0 ≤ z) (iv : IV K nn I true) :
    K.toNat * (sgS D K I z).toNat % nN = (z.toNat + (sgR K).toNat * D.toNat) % nN := by
  have e := iv_nat hK iv
  have hI := (iv_mul iv).1.1
  have hr := (inn_sgR K).1
  have h1 : (sgS D K I z).toNat = I.toNat * ((z.toNat + (sgR K).toNat * D.toNat) % nN) % nN := by
    unfold sgS
    rw [nm_nat hI (inn_na _ _).1]
    congr 2
    unfold na
    have q : nm (sgR K) D = (((sgR K).toNat * D.toNat % nN : Nat) : Int) := by
      rw [← nm_nat hr hD]; exact (Int.toNat_of_nonneg (inn_nm _ _).1).symm
    rw [q]
    obtain ⟨a, rfl⟩ := Int.eq_ofNat_of_zero_le hz
    rw [nn_nN]
    generalize (sgR K).toNat * D.toNat = m
    have : (((a : Int) + ((m % nN : Nat) : Int)) % (nN : Int)) = (((a + m % nN) % nN : Nat) : Int) := by push_cast; rfl
    rw [this]
    simp only [Int.toNat_natCast]
    rw [Nat.add_mod, Nat.mod_mod, ← Nat.add_mod]
  rw [h1]
  generalize z.toNat + (sgR K).toNat * D.toNat = m
  rw [← Nat.mul_mod_mod, Nat.mod_mod, Nat.mul_mod_mod, ← Nat.mul_assoc, Nat.mul_mod, e, one_mod, Nat.one_mul, Nat.mod_mod, Nat.mod_mod]
theorem nat_ne {K : Int} (h : 0 < K) (h1 : K < nn) : K.toNat % nN ≠ 0 := by
  have : K.toNat < nN := by rw [nn_nN] at h1; omega
  rw [Nat.mod_eq_of_lt this]; omega
theorem muk_ne {K : Int} (h : 0 < K) (h1 : K < nn) : mu am K.toNat gP ≠ none := fun e => nat_ne h h1 ((mu_g_none _).1 e)
theorem pti_ne {P : Cpt pN} (h : P ≠ none) : pti P = false := by
  cases e : pti P
  · rfl
  · exact absurd ((pti_none P).1 e) h
theorem holds_0 {D K I J z : Int} (hD : 0 < D) (hD1 : D < nn) (hK : 0 < K) (hK1 : K < nn) (hz : 0 ≤ z) (iv : IV K nn I true) (jv : IV (sgS D K I z) nn J true) :
    hldE (mu am D.toNat gP) z (sgR K) J = 0 := by
  have e : Tq (mu am D.toNat gP) z (sgR K) J = mu am K.toNat gP := by
    rw [Tq_nat _ hz (inn_sgR K).1 (iv_mul jv).1.1]
    exact sign_pt (sgn_nat (by omega) (by omega) hz iv) (iv_nat (inn_sgS _ _ _ _).1 jv)
  unfold hldE
  rw [e, pti_ne (muk_ne hK hK1)]
  simp [sgR]
theorem nr_one {x R : Int} (hx : Bw x) (hf : ¬ R + nn < pp) (h : nr x = R) : x = R := by
  unfold nr at h
  have a := hx.1
  have b := hx.2
  have c : x < 2 * nn := Int.lt_trans b (by decide)
  have d : x % nn = x ∨ x % nn = x - nn := by
    by_cases q : x < nn
    · left; exact Int.emod_eq_of_lt a q
    · right
      have t : x % nn = (x - nn + nn) % nn := by rw [Int.sub_add_cancel]
      rw [t, Int.add_emod_right, Int.emod_eq_of_lt (by omega) (by omega)]
  omega
theorem holds_16 {D K I J z y : Int} (hD : 0 < D) (hD1 : D < nn) (hK : 0 < K) (hK1 : K < nn) (hz : 0 ≤ z) (hy : 0 ≤ y) (iv : IV K nn I true) (jv : IV (sgS D K I z) nn J true)
    (hf : ¬ sgR K + nn < pp) (h1 : y.toNat % nN ≠ z.toNat % nN) (h2 : (z.toNat + y.toNat + 2 * ((sgR K).toNat * D.toNat)) % nN ≠ 0) :
    hldE (mu am D.toNat gP) y (sgR K) J = 16 := by
  unfold hldE
  rw [if_neg]
  intro c
  simp only [Bool.and_eq_true, Bool.not_eq_true', decide_eq_true_eq] at c
  obtain ⟨c1, c2⟩ := c
  have e := Tq_nat (mu am D.toNat gP) hy (inn_sgR K).1 (iv_mul jv).1.1
  have x1 := nr_one (cx_bw _) hf c2
  have x2 : ptx (mu am K.toNat gP) = sgR K := nr_one (cx_bw _) hf rfl
  rw [e] at c1 x1
  rcases two_digests (sgn_nat (by omega) (by omega) hz iv) (iv_nat (inn_sgS _ _ _ _).1 jv) (nat_ne hK hK1) (fun g => by rw [g] at c1; exact absurd c1 (by decide)) (x1.trans x2.symm) with t | t
  · exact h1 t
  · exact h2 t
theorem ns_0 {S : Int} (h : 0 < S) (h1 : S < nn) : ns 0 S = nn - S := by
  unfold ns
  rw [← Int.add_emod_right, Int.emod_eq_of_lt (by omega) (by omega)]; omega
theorem hld_other (P : Cpt pN) (hP : OnC am bm P) {S I J z R : Int} (h : 0 < S) (h1 : S < nn) (hz : 0 ≤ z) (hR : 0 ≤ R) (iv : IV S nn I true) (jv : IV (nn - S) nn J true) : hldE P z R J = hldE P z R I := by
  have a := iv_mul iv
  have b := iv_mul jv
  have s : (I.toNat + J.toNat) % nN = 0 := by
    have d : nn ∣ S * (I + J) := by
      have e1 : nn ∣ S * I - 1 := (iv.2.1 rfl).2
      have e2 : nn ∣ (nn - S) * J - 1 := (jv.2.1 rfl).2
      have e3 : S * (I + J) = (S * I - 1) - ((nn - S) * J - 1) + nn * J := by rw [Int.sub_mul, Int.mul_add]; omega
      rw [e3]
      exact Int.dvd_add (Int.dvd_sub e1 e2) (Int.dvd_mul_right _ _)
    have d2 : nN ∣ S.toNat * (I.toNat + J.toNat) := by
      obtain ⟨x, rfl⟩ := Int.eq_ofNat_of_zero_le (show 0 ≤ S by omega)
      obtain ⟨y, rfl⟩ := Int.eq_ofNat_of_zero_le a.1.1
      obtain ⟨u, rfl⟩ := Int.eq_ofNat_of_zero_le b.1.1
      rw [nn_nN] at d
      simp only [Int.toNat_natCast]
      exact Int.natCast_dvd_natCast.1 (by push_cast; exact d)
    rcases pri_n.dvd_mul d2 with t | t
    · exact absurd (Nat.mod_eq_zero_of_dvd t) (nat_ne h h1)
    · exact Nat.mod_eq_zero_of_dvd t
  have e : Tq P z R J = ngP (Tq P z R I) := by
    rw [Tq_nat P hz hR a.1.1, Tq_nat P hz hR b.1.1]
    exact other_pt P hP s
  unfold hldE
  rw [e, (ng_x _).1, (ng_x _).2]
def lowS (R S : Int) : Int := if R < nn ∧ S < nn ∧ ns 0 S < S then ns 0 S else S
theorem low_u (R S : Int) (hR : Inn R) (hS : Inn S) (W : World) : Calls Tryz.prog 11 #[gv R S] W fun e w' => e = .returned (gv R (lowS R S)) ∧ Below W.heap.size W w' := by
  have b1 := ebel R hR
  have b2 := ebel S hS
  by_cases c1 : R < nn
  · rw [decide_eq_true c1] at b1
    by_cases c2 : S < nn
    · rw [decide_eq_true c2] at b2
      have o := esub 0 S inn_0 hS
      rw [nv_nil] at o
      have q := cmp_any (ns 0 S) S (inn_ns _ _).1 (inn_ns _ _).2 hS.1 hS.2
      by_cases c3 : ns 0 S < S
      · have e : lowS R S = ns 0 S := by simp [lowS, c1, c2, c3]
        rw [e]
        exact low_lt R S _ _ (by unfold sg; rw [if_pos c3]; decide) W b1 b2 o q
      · have e : lowS R S = S := by simp [lowS, c3]
        rw [e]
        exact low_ge R S _ _ (by unfold sg; rw [if_neg c3]; split <;> decide) W b1 b2 o q
    · rw [decide_eq_false c2] at b2
      have e : lowS R S = S := by simp [lowS, c2]
      rw [e]; exact low_no2 R S W b1 b2
  · rw [decide_eq_false c1] at b1
    have e : lowS R S = S := by simp [lowS, c1]
    rw [e]; exact low_no1 R S W b1
theorem sg_cases (A B : Int) : (A < B ∧ sg A B = -1) ∨ (¬ A < B ∧ sg A B = 0) ∨ (¬ A < B ∧ sg A B = 1) := by
  unfold sg
  by_cases h : A < B
  · left; exact ⟨h, by rw [if_pos h]⟩
  · right
    rw [if_neg h]
    split
    · right; exact ⟨h, rfl⟩
    · left; exact ⟨h, rfl⟩
theorem rlow_u (R S : Int) (hR : Inn R) (hS : Inn S) (W : World) : Calls Tryz.prog 12 #[gv R S] W fun e w' => e = .returned (gv R (lowS R S)) ∧ Below W.heap.size W w' := by
  have b1 := refCmp_any R nn hR.1 hR.2 inn_nn.1 inn_nn.2
  have b2 := refCmp_any S nn hS.1 hS.2 inn_nn.1 inn_nn.2
  rcases sg_cases R nn with ⟨c1, e1⟩ | ⟨c1, e1⟩ | ⟨c1, e1⟩
  · rw [e1] at b1
    rcases sg_cases S nn with ⟨c2, e2⟩ | ⟨c2, e2⟩ | ⟨c2, e2⟩
    · rw [e2] at b2
      have o := fun W => ref2Sub_any 0 S nn (by decide) (by decide) hS.1 hS.2 inn_nn.1 inn_nn.2 W
      rw [md_pos _ nn_pos, nv_nil] at o
      have q := refCmp_any (ns 0 S) S (inn_ns _ _).1 (inn_ns _ _).2 hS.1 hS.2
      by_cases c3 : ns 0 S < S
      · have e : lowS R S = ns 0 S := by simp [lowS, c1, c2, c3]
        rw [e]
        exact rlow_lt R S _ _ (by unfold sg; rw [if_pos c3]; decide) W n19 b1 b2 o q
      · have e : lowS R S = S := by simp [lowS, c3]
        rw [e]
        exact rlow_ge R S _ _ (by unfold sg; rw [if_neg c3]; split <;> decide) W n19 b1 b2 o q
    · rw [e2] at b2
      have e : lowS R S = S := by simp [lowS, c2]
      rw [e]; exact rlow_s0 R S W n19 b1 b2
    · rw [e2] at b2
      have e : lowS R S = S := by simp [lowS, c2]
      rw [e]; exact rlow_s1 R S W n19 b1 b2
  · rw [e1] at b1
    have e : lowS R S = S := by simp [lowS, c1]
    rw [e]; exact rlow_r0 R S W n19 b1
  · rw [e1] at b1
    have e : lowS R S = S := by simp [lowS, c1]
    rw [e]; exact rlow_r1 R S W n19 b1
theorem mu_one : mu am (1 : Int).toNat gP = gP := by
  show ad am (mu am 0 gP) gP = gP
  exact p256.zl g_on
theorem ptx_g : ptx gP = gx := gP_pn.1.symm
theorem sgR_1 : sgR 1 = gx := by
  unfold sgR
  rw [mu_one, ptx_g]
  decide +kernel
theorem sgS_1 : sgS 1 1 1 0 = gx := by
  unfold sgS
  rw [sgR_1]
  decide +kernel
theorem iv_1 : IV 1 nn 1 true := ⟨by decide, fun _ => ⟨by decide, by simp⟩, fun h => absurd h (by decide), fun _ => ⟨nn_pos, by simp⟩, fun _ => rfl⟩
theorem nv_1 : nv 1 = .agg #[.int .u64 1, .int .u64 0, .int .u64 0, .int .u64 0] := nv_low _ (by decide) (by decide)
theorem inn_1 : Inn 1 := ⟨by decide, by decide⟩
theorem big_32 (N : Int) : (mkS (bgL N)).size ≤ maxLen := by rw [big32]; decide
theorem awake5 (W : World) : Calls Tryz.prog 13 #[] W fun e w' => e = .returned (.bool true) ∧ Below W.heap.size W w' := by
  have ug : unB gx = true := by decide +kernel
  have u1 : unB 1 = true := by decide +kernel
  have hg : Inn gx := gx_bw.inn
  obtain ⟨J, hJ, _, jv⟩ := inv_ex gx (by decide) (by decide)
  have z0 := of_big 0 inn_0
  have z1 := of_big 1 inn_1
  have s0 := sgn_ok 1 1 1 (mkS (bgL 0)) (big_32 0) inn_1 inn_1 iv_1 (by simp [sgB, unE, u1, digE, big32]) (by rw [z0, sgR_1, sgS_1]; simp [unE, ug])
  rw [z0, sgR_1, sgS_1, nv_1] at s0
  have p0 := pub_ok 1 inn_1 u1
  rw [mu_one, nv_1] at p0
  have h0 := holds_0 (D := 1) (K := 1) (I := 1) (J := J) (z := 0) (by decide) (by decide) (by decide) (by decide) (by decide) iv_1 (by rw [sgS_1]; exact jv)
  have h1 := holds_16 (D := 1) (K := 1) (I := 1) (J := J) (z := 0) (y := 1) (by decide) (by decide) (by decide) (by decide) (by decide) (by decide) iv_1 (by rw [sgS_1]; exact jv) (by rw [sgR_1]; decide) (by decide +kernel) (by rw [sgR_1]; decide +kernel)
  rw [mu_one, sgR_1] at h0 h1
  have c0 := check_ok gP g_on g_ne (mkS (bgL 0)) (big_32 0) (big32 0) gx gx J hg hg ug ug jv
  have c1 := check_ok gP g_on g_ne (mkS (bgL 1)) (big_32 1) (big32 1) gx gx J hg hg ug ug jv
  rw [z0, h0] at c0
  rw [z1, h1] at c1
  have e2 : ckB (ptx gP) (pty gP) (pti gP) ⟨#[]⟩ gx gx = 10 := by
    unfold ckB
    rw [pubE_ok gP g_on g_ne]
    have : digE ⟨#[]⟩ = 10 := by decide
    rw [this]; decide
  have c2 := check_bad (ptx gP) (pty gP) gx gx (pti gP) ⟨#[]⟩ (cx_bw gP).inn (cy_bw gP).inn hg hg (by rw [e2]; decide)
  rw [e2] at c2
  have b0 := refBig_any 0
  have b1 := refBig_any 1
  rw [nv_nil] at b0
  rw [nv_1] at b1
  exact awake_core gx _ _ _ _ _ W b0 s0 p0 c0 b1 c1 c2
theorem un_false {A : Int} (h : ¬ unB A = true) : unB A = false := by simpa using h
end Go.Proofs.YtoolbnbfbegjaaaGreat
