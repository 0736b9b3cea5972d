/- The reference's small functions, Handshake, Master, Side, Finish, Export. -/
import Derived.Test.YtfglpcfacjedmaaDoorSE
set_option linter.all false
set_option maxRecDepth 100000
namespace Go.Proofs.YtfglpcfacjedmaaDoor
open Go.RowKit Go.Sort
theorem madeZ : ∃ C : Array Value, C.size = 32 ∧ (∀ j, j < 32 → C[j]? = some (.int .u8 0)) ∧ ∀ W : World, (Instr.makeSlice 65 (.int .i64 32) (.int .i64 32)).run Tryd.prog W = .ok (.slice (some ⟨W.heap.size, 0, none⟩) 32 32) (W.alloc (.cells C 5)) := by
  obtain ⟨i0, hi, hz0, hz1, hz2⟩ := info_parts Tryd.info5
  refine ⟨madeCells (Value.int .u8 0).cells (32 * 1), by rw [size_madeCells], ?_, fun W => ?_⟩
  · intro j hj
    simp only [madeCells, Value.cells]
    rw [Array.getElem?_map, Array.getElem?_range, if_pos (by omega)]
    simp [Nat.mod_one]
  · have := run_make (P := Tryd.prog) W 65 5 i0 (.int .u8 0) Tryd.underlying65 hi hz0 .i64 .i64 32 32 (by omega) (by omega) (by rw [hz2]; omega) (by omega)
    rw [hz1] at this
    exact this
theorem z32_mk : mkS (List.replicate 32 0) = z32 := by
  apply ba_ext
  rw [mkS_list]
  decide
theorem rzeros_any (w : World) : Calls Tryd.prog 25 #[] w fun e w' => e = .returned (.string z32) ∧ Below w.heap.size w w' := by
  obtain ⟨C, hC, hc, mk⟩ := madeZ
  have mk := mk w
  have cv := convC (w.alloc (.cells C 5)) w.heap.size 32 32 (List.replicate 32 0) rfl (fun j u hu => by
    rw [Addr.add_mid, Nat.zero_add, World.cell?_alloc_at (w := w) C 5 _ j rfl]
    by_cases h : j < 32
    · rw [hc j h]
      rw [List.map_replicate, List.getElem?_replicate, if_pos h] at hu
      exact hu
    · rw [List.map_replicate, List.getElem?_replicate, if_neg h] at hu
      cases hu)
  rw [z32_mk] at cv
  generalize z32 = Z at *
  go_enter Tryd.func25, Tryd.ntmps25
  go_wp2_with fail
  go_ret
  exact ⟨rfl, by go_grown⟩
theorem rearly_core (Z E : ByteArray) (w : World)
    (C1 : ∀ W, Calls Tryd.prog 25 #[] W fun e w' => e = .returned (.string Z) ∧ Below W.heap.size W w')
    (C2 : ∀ W, Calls Tryd.prog 27 #[.string Z, .string Z] W fun e w' => e = .returned (.string E) ∧ Below W.heap.size W w') :
    Calls Tryd.prog 22 #[] w fun e w' => e = .returned (.string E) ∧ Below w.heap.size w w' := by
  go_enter Tryd.func22, Tryd.ntmps22
  go_wp2_with fail
  refine (C1 _).mono ?_
  rintro e w1 ⟨rfl, hb⟩
  go_wp2_with fail
  refine (C1 _).mono ?_
  rintro e w2 ⟨rfl, hb2⟩
  have B2 := Bel.call hb hb2
  go_wp2_with fail
  refine (C2 _).mono ?_
  rintro e w3 ⟨rfl, hb3⟩
  have B3 := Bel.call B2 hb3
  clear C1 C2 hb hb2 hb3 B2
  go_wp2_with fail
  go_ret
  exact ⟨rfl, B3⟩
theorem rearly_any (w : World) : Calls Tryd.prog 22 #[] w fun e w' => e = .returned (.string ear) ∧ Below w.heap.size w w' :=
  rearly_core z32 _ w rzeros_any (fun W => rextract_any _ _ (by rw [z32_size]; omega) (by rw [z32_size]; omega) W)
theorem rderived_core (s l d S : ByteArray) (x : Int) (w : World)
    (C : Calls Tryd.prog 26 #[.string s, .string l, .string d] w fun r w' => r = .returned (.tuple #[.string S, .int .i64 x]) ∧ Below w.heap.size w w') :
    Calls Tryd.prog 23 #[.string s, .string l, .string d] w fun e w' => e = .returned (.string S) ∧ Below w.heap.size w w' := by
  go_enter Tryd.func23, Tryd.ntmps23
  go_wp2_with (go_at_call 26; refine C.mono ?_; rintro e w1 ⟨rfl, hb⟩)
  go_ret
  exact ⟨rfl, hb⟩
theorem rderived_any (s l d : ByteArray) (hs : s.size ≤ 100000) (hl : l.size ≤ maxLen) (hd : d.size ≤ 100000) (w : World) :
    Calls Tryd.prog 23 #[.string s, .string l, .string d] w fun e w' => e = .returned (.string (dv s l d)) ∧ Below w.heap.size w w' := rderived_core s l d _ _ w (rderive_any s l d hs hl hd w)
set_option maxHeartbeats 2000000 in
theorem rnext_core (b f E D B : ByteArray) (w : World)
    (C1 : ∀ W, Calls Tryd.prog 35 #[.string ⟨#[]⟩] W fun e w' => e = .returned (.string E) ∧ Below W.heap.size W w')
    (C2 : ∀ W, Calls Tryd.prog 23 #[.string b, .string ⟨#[100, 101, 114, 105, 118, 101, 100]⟩, .string E] W fun e w' => e = .returned (.string D) ∧ Below W.heap.size W w')
    (C3 : ∀ W, Calls Tryd.prog 27 #[.string D, .string f] W fun e w' => e = .returned (.string B) ∧ Below W.heap.size W w') :
    Calls Tryd.prog 21 #[.string b, .string f] w fun e w' => e = .returned (.string B) ∧ Below w.heap.size w w' := by
  go_enter Tryd.func21, Tryd.ntmps21
  go_wp2_with fail
  refine (C1 _).mono ?_
  rintro e w1 ⟨rfl, hb⟩
  go_wp2_with fail
  refine (C2 _).mono ?_
  rintro e w2 ⟨rfl, hb2⟩
  have B2 := Bel.call hb hb2
  go_wp2_with fail
  refine (C3 _).mono ?_
  rintro e w3 ⟨rfl, hb3⟩
  have B3 := Bel.call B2 hb3
  clear C1 C2 C3 hb hb2 hb3 B2
  go_wp2_with fail
  go_ret
  exact ⟨rfl, B3⟩
/-- The secret behind another one, with something new. -/
def nxs (b f : ByteArray) : ByteArray := macS (dv b ⟨#[100, 101, 114, 105, 118, 101, 100]⟩ (ofS ⟨#[]⟩)) f
theorem nxs_size (b f : ByteArray) : (nxs b f).size = 32 := macS_size _ _
theorem rnext_any (b f : ByteArray) (hb : b.size ≤ 100000) (hf : f.size ≤ 100000) (w : World) :
    Calls Tryd.prog 21 #[.string b, .string f] w fun e w' => e = .returned (.string (nxs b f)) ∧ Below w.heap.size w w' :=
  rnext_core b f _ _ _ w (fun W => rof_any _ (by decide) W) (fun W => rderived_any b _ _ hb (by decide) (by rw [ofS_size]; omega) W)
    (fun W => rextract_any _ _ (by have := lbS_le b ⟨#[100, 101, 114, 105, 118, 101, 100]⟩ (ofS ⟨#[]⟩) 32 (by omega); unfold dv; omega) hf W)
set_option maxHeartbeats 2000000 in
theorem rhand_no (a b : ByteArray) (ha : a.size ≤ maxLen) (hb : b.size ≤ maxLen) (h : ¬ (a.size = 32 ∧ b.size = 32)) (w : World) :
    Calls Tryd.prog 7 #[.string a, .string b] w fun e w' => e = .returned (.tuple #[sec ⟨#[]⟩ ⟨#[]⟩ ⟨#[]⟩ ⟨#[]⟩, .int .i64 10]) ∧ Below w.heap.size w w' := by
  unfold sec
  unfold maxLen at *
  by_cases h1 : a.size = 32
  · have i1 : (a.size : Int) = 32 := by omega
    have i2 : ¬ (b.size : Int) = 32 := by omega
    go_enter Tryd.func7, Tryd.ntmps7
    go_wp2_with fail
    refine bodyPost_ret (v := .tuple #[.agg #[.string ⟨#[]⟩, .string ⟨#[]⟩, .string ⟨#[]⟩, .string ⟨#[]⟩], .int .i64 10]) (by simp [results, Tryd.results7, go_sem]) rfl ⟨rfl, ?_⟩
    go_grown
  · have i1 : ¬ (a.size : Int) = 32 := by omega
    go_enter Tryd.func7, Tryd.ntmps7
    go_wp2_with fail
    refine bodyPost_ret (v := .tuple #[.agg #[.string ⟨#[]⟩, .string ⟨#[]⟩, .string ⟨#[]⟩, .string ⟨#[]⟩], .int .i64 10]) (by simp [results, Tryd.results7, go_sem]) rfl ⟨rfl, ?_⟩
    go_grown
set_option maxHeartbeats 4000000 in
theorem rhand_yes (a b E B X Y : ByteArray) (ha : a.size = 32) (hb : b.size = 32) (w : World)
    (C22 : ∀ W, Calls Tryd.prog 22 #[] W fun e w' => e = .returned (.string E) ∧ Below W.heap.size W w')
    (C21 : ∀ W, Calls Tryd.prog 21 #[.string E, .string a] W fun e w' => e = .returned (.string B) ∧ Below W.heap.size W w')
    (CX : ∀ W, Calls Tryd.prog 23 #[.string B, .string ⟨#[99, 32, 104, 115, 32, 116, 114, 97, 102, 102, 105, 99]⟩, .string b] W fun e w' => e = .returned (.string X) ∧ Below W.heap.size W w')
    (CY : ∀ W, Calls Tryd.prog 23 #[.string B, .string ⟨#[115, 32, 104, 115, 32, 116, 114, 97, 102, 102, 105, 99]⟩, .string b] W fun e w' => e = .returned (.string Y) ∧ Below W.heap.size W w') :
    Calls Tryd.prog 7 #[.string a, .string b] w fun e w' => e = .returned (.tuple #[sec B X Y ⟨#[]⟩, .int .i64 0]) ∧ Below w.heap.size w w' := by
  unfold sec
  have i1 : (a.size : Int) = 32 := by omega
  have i2 : (b.size : Int) = 32 := by omega
  go_enter Tryd.func7, Tryd.ntmps7
  go_wp2_with fail
  generalize hW : World.alloc _ _ = W1
  have A0 : Arr W1 w.heap.size 4 (sx ⟨#[]⟩ ⟨#[]⟩ ⟨#[]⟩ ⟨#[]⟩) := by
    rw [← hW]
    exact Arr.new _ _ _ _ rfl _ 4 (sx_at _ _ _ _)
  have B0 : Below w.heap.size w W1 := by rw [← hW]; go_grown
  clear hW
  refine (C22 _).mono ?_
  rintro e w1 ⟨rfl, hb⟩
  have A0 := A0.to' hb
  have B1 := Bel.call B0 hb
  clear hb C22 B0
  go_wp2_with fail
  refine (C21 _).mono ?_
  rintro e w2 ⟨rfl, hb⟩
  have A0 := A0.to' hb
  have B2 := Bel.call B1 hb
  clear hb C21 B1
  go_wp2_with fail
  refine (CX _).mono ?_
  rintro e w3 ⟨rfl, hb⟩
  have A0 := A0.to' hb
  have B3 := Bel.call B2 hb
  clear hb CX B2
  go_wp2_with fail
  refine (CY _).mono ?_
  rintro e w4 ⟨rfl, hb⟩
  have A0 := A0.to' hb
  have B4 := Bel.call B3 hb
  clear hb CY B3
  obtain ⟨⟨j0, j1, j2, j3⟩, y0, y1, y2, y3⟩ := A0.four
  clear A0
  go_wp2_with fail
  refine bodyPost_ret (v := .tuple #[.agg #[.string B, .string X, .string Y, .string ⟨#[]⟩], .int .i64 0]) (by simp [results, Tryd.results7, go_sem, j0, j1, j2, j3]) rfl ⟨rfl, ?_⟩
  go_grown
set_option maxHeartbeats 2000000 in
theorem rmast_no (x0 x1 x2 x3 b : ByteArray) (ha : x0.size ≤ maxLen) (hb : b.size ≤ maxLen) (h : ¬ (x0.size = 32 ∧ b.size = 32)) (w : World) :
    Calls Tryd.prog 9 #[sec x0 x1 x2 x3, .string b] w fun e w' => e = .returned (.tuple #[sec ⟨#[]⟩ ⟨#[]⟩ ⟨#[]⟩ ⟨#[]⟩, .int .i64 10]) ∧ Below w.heap.size w w' := by
  unfold sec
  unfold maxLen at *
  by_cases h1 : x0.size = 32
  · have i1 : (x0.size : Int) = 32 := by omega
    have i2 : ¬ (b.size : Int) = 32 := by omega
    go_enter Tryd.func9, Tryd.ntmps9
    go_wp2_with fail
    refine bodyPost_ret (v := .tuple #[.agg #[.string ⟨#[]⟩, .string ⟨#[]⟩, .string ⟨#[]⟩, .string ⟨#[]⟩], .int .i64 10]) (by simp [results, Tryd.results9, go_sem]) rfl ⟨rfl, ?_⟩
    go_grown
  · have i1 : ¬ (x0.size : Int) = 32 := by omega
    go_enter Tryd.func9, Tryd.ntmps9
    go_wp2_with fail
    refine bodyPost_ret (v := .tuple #[.agg #[.string ⟨#[]⟩, .string ⟨#[]⟩, .string ⟨#[]⟩, .string ⟨#[]⟩], .int .i64 10]) (by simp [results, Tryd.results9, go_sem]) rfl ⟨rfl, ?_⟩
    go_grown
set_option maxHeartbeats 4000000 in
theorem rmast_yes (x0 x1 x2 x3 b Z B X Y U : ByteArray) (ha : x0.size = 32) (hb : b.size = 32) (w : World)
    (C25 : ∀ W, Calls Tryd.prog 25 #[] W fun e w' => e = .returned (.string Z) ∧ Below W.heap.size W w')
    (C21 : ∀ W, Calls Tryd.prog 21 #[.string x0, .string Z] W fun e w' => e = .returned (.string B) ∧ Below W.heap.size W w')
    (CX : ∀ W, Calls Tryd.prog 23 #[.string B, .string ⟨#[99, 32, 97, 112, 32, 116, 114, 97, 102, 102, 105, 99]⟩, .string b] W fun e w' => e = .returned (.string X) ∧ Below W.heap.size W w')
    (CY : ∀ W, Calls Tryd.prog 23 #[.string B, .string ⟨#[115, 32, 97, 112, 32, 116, 114, 97, 102, 102, 105, 99]⟩, .string b] W fun e w' => e = .returned (.string Y) ∧ Below W.heap.size W w')
    (CU : ∀ W, Calls Tryd.prog 23 #[.string B, .string ⟨#[101, 120, 112, 32, 109, 97, 115, 116, 101, 114]⟩, .string b] W fun e w' => e = .returned (.string U) ∧ Below W.heap.size W w') :
    Calls Tryd.prog 9 #[sec x0 x1 x2 x3, .string b] w fun e w' => e = .returned (.tuple #[sec B X Y U, .int .i64 0]) ∧ Below w.heap.size w w' := by
  unfold sec
  have i1 : (x0.size : Int) = 32 := by omega
  have i2 : (b.size : Int) = 32 := by omega
  go_enter Tryd.func9, Tryd.ntmps9
  go_wp2_with fail
  generalize hW : World.alloc (World.alloc _ _) _ = W1
  have AX : Arr W1 w.heap.size 4 (sx x0 x1 x2 x3) := by
    rw [← hW]
    exact (Arr.new _ _ _ _ rfl _ 4 (sx_at _ _ _ _)).al' _
  have A0 : Arr W1 (w.heap.size + 1) 4 (sx ⟨#[]⟩ ⟨#[]⟩ ⟨#[]⟩ ⟨#[]⟩) := by
    rw [← hW]
    exact Arr.new _ _ _ _ (by simp) _ 4 (sx_at _ _ _ _)
  have B0 : Below w.heap.size w W1 := by rw [← hW]; go_grown
  clear hW
  obtain ⟨⟨k0, k1, k2, k3⟩, y0, y1, y2, y3⟩ := AX.four
  have r0 := fun ds os => cell_regrown k0 ds os
  clear k0 k1 k2 k3 y0 y1 y2 y3 AX
  refine wp_region_quiet_below (by kernel_rfl) (by kernel_rfl) ?_
  repeat (go_big_quiet_step (first | (go_at_call 25; exact Calls.regrown_of (C25 _)) | (go_at_call 21; exact Calls.regrown_of (C21 _))))
  refine wpQuiet_nil ?_
  intro w2 hw'
  obtain ⟨⟨dq, osq⟩, hw''⟩ := hw'
  have hb := below_of hw''
  have A0 := A0.to' hb
  have B2 := Bel.call B0 hb
  clear hw'' r0 C25 C21 hb B0
  go_wp2_with fail
  refine (CX _).mono ?_
  rintro e w3 ⟨rfl, hb⟩
  have A0 := A0.to' hb
  have B3 := Bel.call B2 hb
  clear hb CX B2
  go_wp2_with fail
  refine (CY _).mono ?_
  rintro e w4 ⟨rfl, hb⟩
  have A0 := A0.to' hb
  have B4 := Bel.call B3 hb
  clear hb CY B3
  go_wp2_with fail
  refine (CU _).mono ?_
  rintro e w5 ⟨rfl, hb⟩
  have A0 := A0.to' hb
  have B5 := Bel.call B4 hb
  clear hb CU B4
  obtain ⟨⟨j0, j1, j2, j3⟩, y0, y1, y2, y3⟩ := A0.four
  clear A0
  go_wp2_with fail
  refine bodyPost_ret (v := .tuple #[.agg #[.string B, .string X, .string Y, .string U], .int .i64 0]) (by simp [results, Tryd.results9, go_sem, j0, j1, j2, j3]) rfl ⟨rfl, ?_⟩
  go_grown
set_option maxHeartbeats 2000000 in
theorem rside_no (a : ByteArray) (ha : a.size ≤ maxLen) (h : ¬ a.size = 32) (w : World) :
    Calls Tryd.prog 12 #[.string a] w fun e w' => e = .returned (.tuple #[sid ⟨#[]⟩ ⟨#[]⟩, .int .i64 10]) ∧ Below w.heap.size w w' := by
  unfold sid
  unfold maxLen at *
  have i1 : ¬ (a.size : Int) = 32 := by omega
  go_enter Tryd.func12, Tryd.ntmps12
  go_wp2_with fail
  refine bodyPost_ret (v := .tuple #[.agg #[.string ⟨#[]⟩, .string ⟨#[]⟩, .int .u64 0], .int .i64 10]) (by simp [results, Tryd.results12, go_sem]) rfl ⟨rfl, ?_⟩
  go_grown
set_option maxHeartbeats 4000000 in
theorem rside_yes (a K I : ByteArray) (x y : Int) (ha : a.size = 32) (w : World)
    (CK : ∀ W, Calls Tryd.prog 29 #[.string a, .string ⟨#[107, 101, 121]⟩, .string ⟨#[]⟩, .int .i64 16] W fun r w' => r = .returned (.tuple #[.string K, .int .i64 x]) ∧ Below W.heap.size W w')
    (CI : ∀ W, Calls Tryd.prog 29 #[.string a, .string ⟨#[105, 118]⟩, .string ⟨#[]⟩, .int .i64 12] W fun r w' => r = .returned (.tuple #[.string I, .int .i64 y]) ∧ Below W.heap.size W w') :
    Calls Tryd.prog 12 #[.string a] w fun e w' => e = .returned (.tuple #[sid K I, .int .i64 0]) ∧ Below w.heap.size w w' := by
  unfold sid
  have i1 : (a.size : Int) = 32 := by omega
  go_enter Tryd.func12, Tryd.ntmps12
  go_wp2_with fail
  generalize hW : World.alloc _ _ = W1
  have A0 : Arr W1 w.heap.size 3 (dx ⟨#[]⟩ ⟨#[]⟩) := by
    rw [← hW]
    exact Arr.new _ _ _ _ rfl _ 3 (dx_at _ _)
  have B0 : Below w.heap.size w W1 := by rw [← hW]; go_grown
  clear hW
  refine (CK _).mono ?_
  rintro e w1 ⟨rfl, hb⟩
  have A0 := A0.to' hb
  have B1 := Bel.call B0 hb
  clear hb CK B0
  go_wp2_with fail
  refine (CI _).mono ?_
  rintro e w2 ⟨rfl, hb⟩
  have A0 := A0.to' hb
  have B2 := Bel.call B1 hb
  clear hb CI B1
  obtain ⟨⟨j0, j1, j2⟩, y0, y1, y2⟩ := A0.three
  clear A0
  go_wp2_with fail
  refine bodyPost_ret (v := .tuple #[.agg #[.string K, .string I, .int .u64 0], .int .i64 0]) (by simp [results, Tryd.results12, go_sem, j0, j1, j2]) rfl ⟨rfl, ?_⟩
  go_grown
set_option maxHeartbeats 2000000 in
theorem rfin_no (a b : ByteArray) (ha : a.size ≤ maxLen) (hb : b.size ≤ maxLen) (h : ¬ (a.size = 32 ∧ b.size = 32)) (w : World) :
    Calls Tryd.prog 14 #[.string a, .string b] w fun e w' => e = .returned (.tuple #[.string ⟨#[]⟩, .int .i64 10]) ∧ Below w.heap.size w w' := by
  unfold maxLen at *
  by_cases h1 : a.size = 32
  · have i1 : (a.size : Int) = 32 := by omega
    have i2 : ¬ (b.size : Int) = 32 := by omega
    go_enter Tryd.func14, Tryd.ntmps14
    go_wp2_with fail
    refine bodyPost_ret (v := .tuple #[.string ⟨#[]⟩, .int .i64 10]) (by simp [results, Tryd.results14, go_sem]) rfl ⟨rfl, Below.refl _ _⟩
  · have i1 : ¬ (a.size : Int) = 32 := by omega
    go_enter Tryd.func14, Tryd.ntmps14
    go_wp2_with fail
    refine bodyPost_ret (v := .tuple #[.string ⟨#[]⟩, .int .i64 10]) (by simp [results, Tryd.results14, go_sem]) rfl ⟨rfl, Below.refl _ _⟩
set_option maxHeartbeats 2000000 in
theorem rfin_yes (a b K S : ByteArray) (x : Int) (ha : a.size = 32) (hb : b.size = 32) (w : World)
    (CK : ∀ W, Calls Tryd.prog 29 #[.string a, .string ⟨#[102, 105, 110, 105, 115, 104, 101, 100]⟩, .string ⟨#[]⟩, .int .i64 32] W fun r w' => r = .returned (.tuple #[.string K, .int .i64 x]) ∧ Below W.heap.size W w')
    (CM : ∀ W, Calls Tryd.prog 31 #[.string K, .string b] W fun e w' => e = .returned (.string S) ∧ Below W.heap.size W w') :
    Calls Tryd.prog 14 #[.string a, .string b] w fun e w' => e = .returned (.tuple #[.string S, .int .i64 0]) ∧ Below w.heap.size w w' := by
  have i1 : (a.size : Int) = 32 := by omega
  have i2 : (b.size : Int) = 32 := by omega
  go_enter Tryd.func14, Tryd.ntmps14
  go_wp2_with fail
  refine (CK _).mono ?_
  rintro e w1 ⟨rfl, B1⟩
  clear CK
  go_wp2_with fail
  refine (CM _).mono ?_
  rintro e w2 ⟨rfl, hb⟩
  have B2 := Bel.call B1 hb
  clear hb CM B1
  go_wp2_with fail
  refine bodyPost_ret (v := .tuple #[.string S, .int .i64 0]) (by simp [results, Tryd.results14, go_sem]) rfl ⟨rfl, B2⟩
set_option maxHeartbeats 2000000 in
theorem rexp_no (x0 x1 x2 x3 l c : ByteArray) (n : Int) (hx : x3.size ≤ maxLen) (h : ¬ x3.size = 32) (w : World) :
    Calls Tryd.prog 16 #[sec x0 x1 x2 x3, .string l, .string c, .int .i64 n] w fun e w' => e = .returned (.tuple #[.string ⟨#[]⟩, .int .i64 10]) ∧ Below w.heap.size w w' := by
  unfold sec
  unfold maxLen at *
  have i1 : ¬ (x3.size : Int) = 32 := by omega
  go_enter Tryd.func16, Tryd.ntmps16
  go_wp2_with fail
  refine bodyPost_ret (v := .tuple #[.string ⟨#[]⟩, .int .i64 10]) (by simp [results, Tryd.results16, go_sem]) rfl ⟨rfl, ?_⟩
  go_grown
set_option maxHeartbeats 4000000 in
theorem rexp_yes (x0 x1 x2 x3 l c E D H S : ByteArray) (n e1 e2 : Int) (V : Value) (hV : Hid (V = if e1 = 0 then .tuple #[.string S, .int .i64 e2] else .tuple #[.string ⟨#[]⟩, .int .i64 e1])) (hx : x3.size = 32) (w : World)
    (C1 : ∀ W, Calls Tryd.prog 35 #[.string ⟨#[]⟩] W fun e w' => e = .returned (.string E) ∧ Below W.heap.size W w')
    (C2 : ∀ W, Calls Tryd.prog 26 #[.string x3, .string l, .string E] W fun r w' => r = .returned (.tuple #[.string D, .int .i64 e1]) ∧ Below W.heap.size W w')
    (C3 : ∀ W, Calls Tryd.prog 35 #[.string c] W fun e w' => e = .returned (.string H) ∧ Below W.heap.size W w')
    (C4 : ∀ W, Calls Tryd.prog 29 #[.string D, .string ⟨#[101, 120, 112, 111, 114, 116, 101, 114]⟩, .string H, .int .i64 n] W fun r w' => r = .returned (.tuple #[.string S, .int .i64 e2]) ∧ Below W.heap.size W w') :
    Calls Tryd.prog 16 #[sec x0 x1 x2 x3, .string l, .string c, .int .i64 n] w fun e w' => e = .returned V ∧ Below w.heap.size w w' := by
  unfold sec
  have i1 : (x3.size : Int) = 32 := by omega
  go_enter Tryd.func16, Tryd.ntmps16
  go_wp2_with fail
  generalize hW : World.alloc _ _ = W1
  have AX : Arr W1 w.heap.size 4 (sx x0 x1 x2 x3) := by
    rw [← hW]
    exact Arr.new _ _ _ _ rfl _ 4 (sx_at _ _ _ _)
  have B0 : Below w.heap.size w W1 := by rw [← hW]; go_grown
  clear hW
  obtain ⟨⟨k0, k1, k2, k3⟩, y0, y1, y2, y3⟩ := AX.four
  have r3 := fun ds os => cell_regrown k3 ds os
  clear k0 k1 k2 k3 y0 y1 y2 y3
  refine wp_region_quiet_below (by kernel_rfl) (by kernel_rfl) ?_
  repeat (go_big_quiet_step (first | (go_at_call 35; exact Calls.regrown_of (C1 _)) | (go_at_call 26; exact Calls.regrown_of (C2 _))))
  refine wpQuiet_nil ?_
  intro w1 hw'
  obtain ⟨⟨dq, osq⟩, hw''⟩ := hw'
  have hb := below_of hw''
  have B1 := Bel.call B0 hb
  clear hw'' r3 C1 C2 hb AX B0
  by_cases h : e1 = 0
  · subst h
    go_wp2_with fail
    refine (C3 _).mono ?_
    rintro e w2 ⟨rfl, hb⟩
    have B2 := Bel.call B1 hb
    clear hb C3 B1
    go_wp2_with fail
    refine (C4 _).mono ?_
    rintro e w3 ⟨rfl, hb⟩
    have B3 := Bel.call B2 hb
    clear hb C4 B2
    go_wp2_with fail
    refine bodyPost_ret (v := .tuple #[.string S, .int .i64 e2]) (by simp [results, Tryd.results16, go_sem]) rfl ⟨by rw [hV.out]; simp, B3⟩
  · go_wp2_with fail
    refine bodyPost_ret (v := .tuple #[.string ⟨#[]⟩, .int .i64 e1]) (by simp [results, Tryd.results16, go_sem]) rfl ⟨by rw [hV.out, if_neg h], B1⟩
end Go.Proofs.YtfglpcfacjedmaaDoor
