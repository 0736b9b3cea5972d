/- The program nego: Keys, of an end that tells an error. -/
import Derived.Deep.MidRow
import Derived.Deep.Cut
import Derived.Laws.BytesString
import Derived.Test.YtbhmbdkijpocmaaGreatDoorJ2
import Derived.Test.YtbhmbdkijpocmaaGreatDoorJ10
import Derived.Test.YtbhmbdkijpocmaaGreatDoorJ1
set_option linter.all false
set_option maxRecDepth 100000
namespace Go.Proofs.YtbhmbdkijpocmaaGreatDoor
open Go.RowKit Go.Shelf Go.Sort
/-- A type of n cells by value. -/
structure Ty (T : TypeId) (n : Nat) : Prop where
  u : ∃ d, Tryz.prog.underlying T = some d ∧ d.isRow = true
  i : (Tryz.prog.info? T).map (·.size) = some n
/-- n cells, as a letter. -/
structure Cells (L : List Value) (n : Nat) (F : Nat → Value) : Prop where
  len : L.length = n
  at_ : ∀ j, j < n → L[j]? = some (F j)
  one : ∀ v ∈ L, v.oneCell' = true
theorem Arr.sub {w : World} {b N : Nat} {G : Nat → Value} (A : Arr w b N G) {L : List Value} {n : Nat} {F : Nat → Value} (c : Cells L n F) (o : Nat) (ho : o + n ≤ N) (e : ∀ j, j < n → G (o + j) = F j) : w.rangeAt b o L := fun j v hv => by
  have hj : j < n := by rw [← c.len]; exact (List.getElem?_eq_some_iff.1 hv).1
  rw [(A (o + j) (by omega)).1, e j hj, ← c.at_ j hj]
  exact hv
theorem Cells.ld {L : List Value} {n : Nat} {F : Nat → Value} (c : Cells L n F) {T : TypeId} (t : Ty T n) {w : World} {b N : Nat} {G : Nat → Value} (A : Arr w b N G) (o : Nat) (ho : o + n ≤ N) (e : ∀ j, j < n → G (o + j) = F j) :
    (loadVar T ⟨b, o, none⟩).run Tryz.prog w = .ok (.agg L.toArray) w := by
  obtain ⟨d, hu, hd⟩ := t.u
  exact run_loadVar_mid w b o T L d (A.sub c o ho e) hu hd (by rw [c.len]; exact t.i)
theorem Cells.new {L : List Value} {n : Nat} {F : Nat → Value} (c : Cells L n F) (w : World) (T : TypeId) (b : Nat) (hb : b = w.heap.size) : Arr (w.alloc (.cells L.toArray T)) b n F :=
  Arr.new w _ T b hb _ n (fun j hj => by rw [List.getElem?_toArray]; exact c.at_ j hj)
theorem tT44 : Ty 64 44 := ⟨⟨_, Tryz.underlying64, rfl⟩, by kernel_rfl⟩
theorem Cells.of (L : List Value) (n : Nat) (hl : L.length = n) (h1 : L.all Value.oneCell' = true) : Cells L n (fun j => L.getD j undef) :=
  ⟨hl, fun j hj => by rw [List.getD_eq_getElem?_getD, List.getElem?_eq_getElem (by omega)]; rfl, fun v hv => List.all_eq_true.1 h1 v hv⟩
def GB (W W' : World) : Prop := Below W.heap.size W W'
theorem GB.refl (W : World) : GB W W := Below.refl _ _
theorem GB.trans (x y z : World) (h : GB x y) (g : GB y z) : GB x z := Bel.call h g
theorem GB.drawn (W : World) (d : Nat) : GB W { W with drawn := d } := ⟨rfl, rfl, rfl, Nat.le_refl _, fun _ _ => rfl⟩
theorem StG.callR {P : Program} {w : World} {φ : Value → World → Prop} {r : Result Next} {f : FuncId} {args : Array Value} (h : r = .ok (.enter f args) w) (c : Calls P f args w fun e w' => (∃ v, e = .returned v ∧ φ v w') ∧ Below w.heap.size w w') : StG P GB w φ r := by
  rw [h]
  exact ⟨rfl, c.mono fun e w' ⟨⟨v, h1, h2⟩, h3⟩ => ⟨v, h1, h3, h2⟩⟩
theorem StG.callB {P : Program} {w : World} {φ : Value → World → Prop} {r : Result Next} {v : Value} {f : FuncId} {args : Array Value} (h : r = .ok (.enter f args) w) (c : Calls P f args w fun e w' => e = .returned v ∧ Below w.heap.size w w') (hv : ∀ w', φ v w') : StG P GB w φ r := by
  rw [h]
  exact ⟨rfl, c.mono fun e w' ⟨h1, h3⟩ => ⟨v, h1, h3, hv w'⟩⟩
/-- The exporter's label. -/
def exN : ByteArray := ⟨#[69, 88, 80, 79, 82, 84, 69, 82, 45, 110, 101, 116, 119, 111, 114, 107, 45, 116, 105, 109, 101, 45, 115, 101, 99, 117, 114, 105, 116, 121]⟩
/-- An end that is not open tells no keys. -/
theorem tExp_no (L : List Value) (F : Nat → Value) (hL : Cells L 44 F) (st : Int) (h0 : F 0 = .int .i64 st) (hs : st ≠ 3) (a b : ByteArray) (n : Int) (w : World) :
    Calls Tryz.prog 61 #[.agg L.toArray, .string a, .string b, .int .i64 n] w fun e w' => e = .returned (.tuple #[.string ⟨#[]⟩, .int .i64 14]) ∧ Below w.heap.size w w' := by
  have q : (st != 3) = true := by simpa using hs
  have A : Arr _ _ 44 _ := hL.new w 64 _ rfl
  have hB : Below w.heap.size w (w.alloc (.cells L.toArray 64)) := by go_grown
  have c0 := A.cv 0 (by decide) _ h0
  clear A h0 hs
  go_enter Tryz.func61, Tryz.ntmps61
  go_upto_region 1 with (fail)
  generalize w.alloc (.cells L.toArray 64) = W0 at *
  go_wp2_with fail
  exact bodyPost_ret (v := .tuple #[.string ⟨#[]⟩, .int .i64 14]) (by simp [results, Tryz.results61, go_sem]) rfl ⟨rfl, hB⟩
theorem at1u (v : Value) : ∀ j, j < 1 → (#[v] : Array Value)[j]? = some (([v] : List Value).getD j undef) := fun j hj => by
  match j, hj with
  | 0, _ => rfl
/-- What the operations of Keys' round give. -/
def kyV (L : List Value) (n to : Int) (P T C : ByteArray) (sz : Int) (S : ByteArray) (E : Int) (i : Nat) (v : Value) (W : World) : Prop := match i, v, W with
  | 0, v, _ => v = .agg L.toArray
  | 1, v, _ => v = .int .i64 n
  | 2, v, W => ∃ b, v = .slice (some ⟨b, 0, none⟩) 2 2 ∧ Nls W v [0, n]
  | 3, v, _ => v = .string P
  | 4, v, _ => v = .int .i64 to
  | 5, v, _ => v = .int .u8 to
  | 6, v, W => ∃ b, v = .slice (some ⟨b, 0, none⟩) 1 1 ∧ b < W.heap.size ∧ W.cell? ⟨b, 0, none⟩ = some (.int .u8 to)
  | 7, v, _ => v = .string T
  | 8, v, _ => v = .string C
  | 9, v, _ => v = .int .i64 sz
  | 10, v, _ => v = .tuple #[.string S, .int .i64 E]
  | 11, v, _ => v = .tuple #[.string S, .int .i64 E]
  | 12, v, _ => v = .string S
  | 13, v, _ => v = .int .i64 E
  | 14, v, _ => v = .string S
  | 15, v, _ => v = .int .i64 E
  | _, _, _ => True
theorem kyV.st (L : List Value) (n to : Int) (P T C : ByteArray) (sz : Int) (S : ByteArray) (E : Int) (i : Nat) (v : Value) (w w' : World) (h : kyV L n to P T C sz S E i v w) (hb : GB w w') : kyV L n to P T C sz S E i v w' := by
  unfold kyV at h ⊢
  split at h
  case h_3 => obtain ⟨b, h1, h2⟩ := h; exact ⟨b, h1, Nls.to h2 hb⟩
  case h_7 => obtain ⟨b, h1, h2, h3⟩ := h; exact ⟨b, h1, Nat.lt_of_lt_of_le h2 hb.size, (hb.cell (p := ⟨b, 0, none⟩) h2).trans h3⟩
  all_goals first | exact h | trivial
theorem conv1 (W : World) (b : Nat) (k : Int) (hc : W.cell? ⟨b, 0, none⟩ = some (.int .u8 k)) : (convert 96 9 (.slice (some ⟨b, 0, none⟩) 1 1)).run Tryz.prog W = .ok (.string ⟨#[UInt8.ofNat k.toNat]⟩) W := by
  rw [run_convert_bytes_string W 96 9 5 _ 1 1 Tryz.underlying96 Tryz.underlying5 Tryz.underlying9]
  refine run_bytesToString W ⟨b, 0, none⟩ 1 1 [k] ?_
  exact run_loadCells_list (P := Tryz.prog) W ⟨b, 0, none⟩ [.int .u8 k] (by
    intro j v hv
    match j, hv with
    | 0, hv => rw [Addr.add_mid]; cases hv; exact hc)
set_option maxHeartbeats 8000000 in
theorem pKeys_err (L : List Value) (F : Nat → Value) (hL : Cells L 44 F) (n sz : Int) (P C S : ByteArray) (E : Int) (hk : ksI n = sz) (hz : sz ≠ 0) (hP : prS [0, n] = P) (p9 : P.size ≤ 1000) (hC : P ++ ⟨#[0]⟩ = C) (hE : E ≠ 0)
    (CE : ∀ W, Calls Tryz.prog 61 #[.agg L.toArray, .string exN, .string C, .int .i64 sz] W fun e w' => e = .returned (.tuple #[.string S, .int .i64 E]) ∧ Below W.heap.size W w') (w : World) :
    Calls Tryz.prog 20 #[.agg L.toArray, .int .i64 n] w fun e w' => e = .returned (.tuple #[.string ⟨#[]⟩, .string ⟨#[]⟩, .int .i64 E]) ∧ Below w.heap.size w w' := by
  have CK := fun W => pKeySize_any n W
  rw [hk] at CK
  have CP := fun v (W : World) H => ppaired_any [0, n] v W H (by simp)
  rw [hP] at CP
  have q : (sz == 0) = false := by simpa using hz
  have qE : (E != 0) = true := by simpa using hE
  have A : Arr _ _ 44 _ := hL.new w 64 _ rfl
  have hB : Below w.heap.size w (w.alloc (.cells L.toArray 64)) := by go_grown
  have p0 : (P.size : Int) ≤ 1000 := by omega
  clear hk hz hP hE p9
  unfold exN at CE
  go_enter Tryz.func20, Tryz.ntmps20
  go_upto_region 1 with (fail)
  generalize w.alloc (.cells L.toArray 64) = W0 at *
  go_wp2_with fail
  refine (CK _).mono ?_
  rintro e w1 ⟨rfl, rfl⟩
  clear CK
  have A2 := Arr.al' (n := 43) A (.cells #[.string ⟨#[]⟩, .string ⟨#[]⟩] 94)
  have B2 := Bel.al hB (.cells #[.string ⟨#[]⟩, .string ⟨#[]⟩] 94)
  go_upto_region 5 with (fail)
  generalize w1.alloc (.cells #[.string ⟨#[]⟩, .string ⟨#[]⟩] 94) = w2 at *
  generalize w1.heap.size = b1 at *
  clear A hB
  go_wp2_with fail
  go_loopw [16] (fun i wr => i = .int .i64 0 ∧ Below w2.heap.size w2 wr) (fun i _ => 0)
  case atStart => exact ⟨rfl, Below.refl _ _⟩
  case round =>
    obtain ⟨rfl, hr⟩ := hrel
    have A3 : Arr _ _ 44 _ := Arr.to' (n := 43) A2 hr
    have B3 := Bel.call B2 hr
    clear A2 B2 hr
    go_upto_region 8 with (fail)
    refine wp_region_all GB (kyV L n 0 P ⟨#[0]⟩ C sz S E) (by kernel_rfl) (by kernel_rfl) (fun d => GB.drawn _ d) GB.trans (fun i v w1 w2 h _ g => kyV.st _ _ _ _ _ _ _ _ _ i v w1 w2 h g) ?_ ?_
    · intro i o ρ W hi ho hW hP hS
      have ci : i = 0 ∨ i = 1 ∨ i = 2 ∨ i = 3 ∨ i = 4 ∨ i = 5 ∨ i = 6 ∨ i = 7 ∨ i = 8 ∨ i = 9 ∨ i = 10 ∨ i = 11 ∨ i = 12 ∨ i = 13 ∨ i = 14 ∨ i = 15 := by simp only [List.length_cons, List.length_nil] at hi; omega
      have hc := hP.c
      have hf := hP.f
      rcases ci with rfl | rfl | rfl | rfl | rfl | rfl | rfl | rfl | rfl | rfl | rfl | rfl | rfl | rfl | rfl | rfl <;> cases ho
      · have h2 : ρ (.tmp 2) = .pointer (some ⟨w.heap.size, 0, none⟩) := hS 2 (by kernel_rfl)
        have AW : Arr W w.heap.size 44 F := A3.to' (n := 43) hW
        have := hL.ld tT44 AW 0 (by omega) (fun j _ => by rw [Nat.zero_add])
        exact StG.val (by unfold execOp; simp only [h2, Instr.loadAt, Instr.sureAddr, Sem.run_bind, Sem.run_pure, Result.andThen_ok, this]) (GB.refl _) rfl
      · have h1 : ρ (.tmp 1) = .int .i64 n := hS 1 (by kernel_rfl)
        exact StG.val (by simp [execOp, hc, go_sem, h1] <;> rfl) (GB.refl _) rfl
      · have h21 : ρ (.tmp 21) = .int .i64 n := hS 21 (by kernel_rfl)
        exact StG.new (w' := W.alloc (.cells #[.int .i64 0, .int .i64 n] 3)) (by simp [execOp, hc, go_sem, h21] <;> rfl) ((Below.refl _ W).alloc (Nat.le_refl _) _) ⟨W.heap.size, rfl, nls_new W [0, n]⟩
      · obtain ⟨b, h22, hN⟩ : ∃ b, ρ (.tmp 22) = .slice (some ⟨b, 0, none⟩) 2 2 ∧ Nls W (ρ (.tmp 22)) [0, n] := hS 22 (by kernel_rfl)
        rw [h22] at hN
        exact StG.callB (f := 29) (args := #[.slice (some ⟨b, 0, none⟩) 2 2]) (by simp [execOp, hc, hf, go_sem, h22] <;> rfl) (CP _ W hN) (fun _ => rfl)
      · have h9 : ρ (.tmp 9) = .int .i64 0 := hS 9 (by kernel_rfl)
        exact StG.val (by simp [execOp, hc, go_sem, h9] <;> rfl) (GB.refl _) rfl
      · have h24 : ρ (.tmp 24) = .int .i64 0 := hS 24 (by kernel_rfl)
        exact StG.val (by simp [execOp, hc, go_sem, h24] <;> rfl) (GB.refl _) rfl
      · have h25 : ρ (.tmp 25) = .int .u8 0 := hS 25 (by kernel_rfl)
        exact StG.new (w' := W.alloc (.cells #[.int .u8 0] 5)) (by simp [execOp, hc, go_sem, h25] <;> rfl) ((Below.refl _ W).alloc (Nat.le_refl _) _) ⟨W.heap.size, rfl, by simp, (Arr.new W #[Value.int .u8 0] 5 _ rfl _ 1 (at1u _)).cv 0 (by decide) _ rfl⟩
      · obtain ⟨b, h26, _, hN⟩ : ∃ b, ρ (.tmp 26) = .slice (some ⟨b, 0, none⟩) 1 1 ∧ b < W.heap.size ∧ W.cell? ⟨b, 0, none⟩ = some (.int .u8 0) := hS 26 (by kernel_rfl)
        have := conv1 W b 0 hN
        exact StG.val (by simp [execOp, hc, h26, Sem.run_bind, Sem.run_pure, this] <;> rfl) (GB.refl _) rfl
      · have h23 : ρ (.tmp 23) = .string P := hS 23 (by kernel_rfl)
        have h27 : ρ (.tmp 27) = .string ⟨#[0]⟩ := hS 27 (by kernel_rfl)
        exact StG.val (by simp [execOp, hc, go_sem, h23, h27] <;> first | omega | rfl) (GB.refl _) (congrArg Value.string hC)
      · have h7 : ρ (.tmp 7) = .int .i64 sz := hS 7 (by kernel_rfl)
        exact StG.val (by simp [execOp, hc, go_sem, h7] <;> rfl) (GB.refl _) rfl
      · have h20 : ρ (.tmp 20) = .agg L.toArray := hS 20 (by kernel_rfl)
        have h28 : ρ (.tmp 28) = .string C := hS 28 (by kernel_rfl)
        have h29 : ρ (.tmp 29) = .int .i64 sz := hS 29 (by kernel_rfl)
        exact StG.callB (f := 61) (args := #[.agg L.toArray, .string ⟨#[69, 88, 80, 79, 82, 84, 69, 82, 45, 110, 101, 116, 119, 111, 114, 107, 45, 116, 105, 109, 101, 45, 115, 101, 99, 117, 114, 105, 116, 121]⟩, .string C, .int .i64 sz]) (by simp [execOp, hc, hf, go_sem, h20, h28, h29] <;> rfl) (CE W) (fun _ => rfl)
      · have h30 : ρ (.tmp 30) = .tuple #[.string S, .int .i64 E] := hS 30 (by kernel_rfl)
        exact StG.val (by simp [execOp, hc, go_sem, h30] <;> rfl) (GB.refl _) rfl
      · have h19 : ρ (.tmp 19) = .tuple #[.string S, .int .i64 E] := hS 19 (by kernel_rfl)
        exact StG.val (by simp [execOp, hc, go_sem, h19] <;> rfl) (GB.refl _) rfl
      · have h19 : ρ (.tmp 19) = .tuple #[.string S, .int .i64 E] := hS 19 (by kernel_rfl)
        exact StG.val (by simp [execOp, hc, go_sem, h19] <;> rfl) (GB.refl _) rfl
      · have h31 : ρ (.tmp 31) = .string S := hS 31 (by kernel_rfl)
        exact StG.val (by simp [execOp, hc, go_sem, h31] <;> rfl) (GB.refl _) rfl
      · have h32 : ρ (.tmp 32) = .int .i64 E := hS 32 (by kernel_rfl)
        exact StG.val (by simp [execOp, hc, go_sem, h32] <;> rfl) (GB.refl _) rfl
    intro x W hW hV
    have h15 : x 15 = .int .i64 E := hV 15 (by decide)
    have h14 : x 14 = .string S := hV 14 (by decide)
    have B4 : Below _ w W := Bel.call B3 hW
    clear hV hW A3 B3 CP CE hC
    simp only [puts, Act.put, List.setIfInBounds_toArray, List.set_cons_succ, List.set_cons_zero, h14, h15]
    go_wp2_with fail
    exact bodyPost_ret (v := .tuple #[.string ⟨#[]⟩, .string ⟨#[]⟩, .int .i64 E]) (by simp [results, Tryz.results20, go_sem]) rfl ⟨rfl, B4⟩
theorem tK : CK0 := fun w => by
  have e : zT = .agg (List.toArray [.int .i64 0, .string ⟨#[]⟩, .int .i64 0, .slice none 0 0, .slice none 0 0, .int .u64 0, .int .u64 0, .int .u64 0, .int .u64 0, .int .u64 0, .int .u64 0, .int .u64 0, .int .u64 0, .string ⟨#[]⟩, .string ⟨#[]⟩, .string ⟨#[]⟩, .string ⟨#[]⟩, .string ⟨#[]⟩, .string ⟨#[]⟩, .int .i64 0, .int .u64 0, .int .u64 0, .int .u64 0, .int .u64 0, .int .u64 0, .int .u64 0, .int .u64 0, .int .u64 0, .bool false, .string ⟨#[]⟩, .string ⟨#[]⟩, .string ⟨#[]⟩, .string ⟨#[]⟩, .string ⟨#[]⟩, .string ⟨#[]⟩, .string ⟨#[]⟩, .string ⟨#[]⟩, .string ⟨#[]⟩, .string ⟨#[]⟩, .int .u64 0, .string ⟨#[]⟩, .string ⟨#[]⟩, .int .u64 0, .int .i64 0]) := rfl
  rw [e]
  exact pKeys_err _ _ (Cells.of _ 44 rfl rfl) 15 32 ⟨#[0, 0, 0, 15]⟩ ⟨#[0, 0, 0, 15, 0]⟩ ⟨#[]⟩ 14 rfl (by decide) (by decide) (by decide) (by decide) (by decide)
    (fun W => tExp_no _ _ (Cells.of _ 44 rfl rfl) 0 rfl (by decide) _ _ _ W) w
end Go.Proofs.YtbhmbdkijpocmaaGreatDoor
