/- The round keys handed out, forward and backward. -/
import Derived.Test.YtjaljnfijhfkcaaGreatDoorJ20
import Derived.Test.YtjaljnfijhfkcaaGreatDoorJ14
set_option linter.all false
set_option maxRecDepth 100000
namespace Go.Proofs.YtjaljnfijhfkcaaGreatDoor
open Go.RowKit Go.Shelf Go.Sort
attribute [local go_sem] Oper.semAt_some
/-- What a round keeps: the cipher's block, and the box with its address. -/
def KM (b bx : Nat) (W W' : World) : Prop := (∀ f, Arr W b 321 f → Arr W' b 321 f) ∧ (∀ f, Arr W bx 1 f → Arr W' bx 1 f)
theorem KM.t {b bx : Nat} {A B C : World} (h1 : KM b bx A B) (h2 : KM b bx B C) : KM b bx A C := ⟨fun f h => h2.1 f (h1.1 f h), fun f h => h2.2 f (h1.2 f h)⟩
theorem KM.b {b bx : Nat} (W : World) (l : Nat) (o o' : Obj) (hl : W.heap[l]? = some o) (hc : o.isCells = false) : KM b bx W (W.putObj l o') :=
  ⟨fun f h => arr_kept h (grownBy_putObj' W l o') (fun r e => by cases e; exact ⟨o, hl, hc⟩), fun f h => arr_kept h (grownBy_putObj' W l o') (fun r e => by cases e; exact ⟨o, hl, hc⟩)⟩
theorem KM.g {b bx : Nat} (A B : World) (h : A.grownBy B none) : KM b bx A B := ⟨fun f hA => arr_kept hA h (fun r e => by cases e), fun f hA => arr_kept hA h (fun r e => by cases e)⟩
theorem KM.below {b bx : Nat} {W W' : World} (hb : Below W.heap.size W W') : KM b bx W W' := ⟨fun f h => h.below hb h.lt, fun f h => h.below hb h.lt⟩
def encK (key : ByteArray) (x : Nat) : Array Value := #[.int .i64 (x : Int), bv (col (rk key x))]
def MkF (key : ByteArray) (b : Nat) (pre : List Nat) (x : Nat) (W : World) : Prop := Made W b key ∧ x = pre.length ∧ x < nkO key + 7 ∧ pre = List.range x
def MkB (key : ByteArray) (b : Nat) (pre : List Nat) (x : Nat) (W : World) : Prop := Made W b key ∧ x + pre.length = nkO key + 6 ∧ x < nkO key + 7 ∧ pre = (List.range pre.length).map (nkO key + 6 - ·)
def AllF (key : ByteArray) (ys : List Nat) : Prop := ys = List.range (nkO key + 7)
def AllB (key : ByteArray) (ys : List Nat) : Prop := ys = (List.range (nkO key + 7)).map (nkO key + 6 - ·)
set_option maxHeartbeats 4000000 in
theorem forward1_in (key : ByteArray) (hk : Key key) (n l b bx : Nat) (hn : 1 ≤ n) (hne : bx ≠ b) (Jv Jx : List Nat → World → Prop) {B : Nat} (hJ : AbidesFrom B Jv) (hC : ∀ s A A', Jv s A → A.grownBy A' (some b) → Jv s A')
    (hY : ∀ pre (x : Nat) W, Jv pre W → MkF key b pre x W → YieldAt Fence.wide (n - 1) Tryz.prog l (encK key x) W fun e W' => (e = .returned (.bool true) ∧ Jv (pre ++ [x]) W' ∧ KM b bx W W') ∨ (e = .returned (.bool false) ∧ Jx (pre ++ [x]) W'))
    (W : World) (hE : Either W b key) (hA : Arr W bx 1 (fun _ => .pointer (some ⟨b, 0, none⟩))) (h0 : Jv [] W) :
    CallsIn Fence.wide n Tryz.prog 123 #[.func (.yield l) #[] #[], .pointer (some ⟨bx, 0, none⟩)] W fun e W' => (∃ v, e = .returned v) ∧
      ((∃ ys : List Nat, AllF key ys ∧ Jv ys W' ∧ Made W' b key) ∨ (∃ pre : List Nat, True ∧ Jx pre W')) := by
  have hd : 1 ≤ n := hn
  have nk1 : nkO key ≤ 8 := by unfold nkO; rcases hk with h | h <;> omega
  refine callsIn_of_wp Tryz.func123 rfl trivial ?_ rfl
  simp only [Tryz.ntmps123, List.size_toArray, List.length_cons, List.length_nil, Nat.reduceAdd, Nat.reduceSub, Array.replicate_succ, Array.replicate_zero, List.push_toArray, List.append_toArray, List.nil_append, List.cons_append]
  obtain ⟨m, hm⟩ : ∃ m, nkO key + 6 = m := ⟨_, rfl⟩
  have HM : Hid (nkO key + 6 = m) := hm
  have m14 : (m : Int) ≤ 14 := by omega
  clear hm
  have cb := hA.c 0 (by omega)
  have mk := made_any key hk b W hE
  gi_wp2_with (refine ⟨trivial, ?_⟩; gi_at_call 124; refine (callsIn_wide.2 mk).mono ?_; rintro e w1 ⟨rfl, hG, hM⟩; have cl := Arr.c hM 320 (by omega); rw [cph_l, HM.out] at cl; have c00 := Arr.c hM 0 (by omega))
  have A1 := gb_arr hG hne hA
  have J1 := hC _ _ _ h0 hG
  clear cb mk hE hA h0 cl c00 hG
  have hnot : ∀ (x : Bool) (w : World), (Op.unary .not (.bool x)).run Tryz.prog w = .ok (.bool (!x)) w := fun _ _ => rfl
  gi_loopw [10] (fun i wr => ∃ k : Nat, k ≤ m + 1 ∧ i = .int .i64 k ∧ Jv (List.range k) wr ∧ Made wr b key ∧ Arr wr bx 1 (fun _ => .pointer (some ⟨b, 0, none⟩))) (fun i _ => m + 1 - (intOf i).toNat)
  case atStart => exact ⟨0, by omega, rfl, J1, hM, A1⟩
  case round =>
    clear J1 hM A1
    obtain ⟨k, hkm, rfl, hJs, hM, hA⟩ := hrel
    have k0 : (0 : Int) ≤ (k : Int) := by omega
    by_cases hlt : k < m + 1
    · have k1 : (k : Int) < (m : Int) + 1 := by omega
      have cb := hA.c 0 (by omega)
      have rkc := roundKey_any key hk b k (by have := HM.out; omega) wr hM
      gi_wp2_with (refine ⟨trivial, ?_⟩; gi_at_call 125; refine (callsIn_wide.2 rkc).mono ?_; rintro e w2 ⟨rfl, hb⟩; have hJ2 := hJ _ wr w2 none hJs (gby hb) (fun r e => by cases e); have hM2 := hM.to hb; have hA2 := hA.to' hb; obtain ⟨fn, tmps, assign, body, hy, hR⟩ := hY (List.range k) k w2 hJ2 ⟨hM2, by simp, by have := HM.out; omega, rfl⟩; unfold encK at hy; clear hJs hM hA hb cb rkc)
      refine hR.mono ?_
      rintro e W3 (⟨rfl, hJ3, hK⟩ | ⟨rfl, hJx3⟩)
      · gi_wp2
        refine ⟨⟨k + 1, by omega, by go_num, by rw [List.range_succ]; exact hJ3, hK.1 _ hM2, hK.2 _ hA2⟩, by first | (simp [intOf]; done) | (simp [intOf]; omega)⟩
      · gi_wp2
        refine bodyPost_ret (results_none rfl _ _ _) rfl ?_
        exact ⟨⟨_, rfl⟩, .inr ⟨_, trivial, hJx3⟩⟩
    · have k1 : ¬ (k : Int) < (m : Int) + 1 := by omega
      have e : k = m + 1 := by omega
      gi_wp2
      go_end0
      refine ⟨⟨_, rfl⟩, .inl ⟨_, ?_, hJs, hM⟩⟩
      unfold AllF
      rw [e]
      congr 1
      have := HM.out
      omega
theorem forward_seq (key : ByteArray) (hk : Key key) (n b bx : Nat) (hn : 1 ≤ n) (hne : bx ≠ b) (w0 : World) (hE : Either w0 b key) (hA : Arr w0 bx 1 (fun _ => .pointer (some ⟨b, 0, none⟩))) :
    SeqM Fence.wide n Tryz.prog 123 #[.pointer (some ⟨bx, 0, none⟩)] (encK key) (KM b bx) (MkF key b) (fun _ => True) (AllF key) (fun _ => True) (some b) (fun W => Made W b key) w0 :=
  fun l Jv Jx W hW hJ _ hC _ hY h0 => forward1_in key hk n l b bx hn hne Jv Jx hJ hC hY W (hE.to hW) (hA.to' hW) h0
theorem forward_any (p : Addr) (w : World) : Calls Tryz.prog 107 #[.pointer (some p)] w fun e w' => e = .returned (.func (.func 123) #[] #[.pointer (some ⟨w.heap.size, 0, none⟩)]) ∧ w' = w.alloc (.cells #[.pointer (some p)] 179) := by
  go_enter Tryz.func107, Tryz.ntmps107
  go_wp2
  go_ret
  exact ⟨rfl, rfl⟩
end Go.Proofs.YtjaljnfijhfkcaaGreatDoor
