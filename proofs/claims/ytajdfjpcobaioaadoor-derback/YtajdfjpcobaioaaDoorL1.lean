/- DerBack's walk. -/
import Derived.Test.YtajdfjpcobaioaaDoorD14
import Derived.Test.YtajdfjpcobaioaaDoorM3
import Derived.Deep.Cut
set_option linter.all false
set_option maxRecDepth 100000
namespace Go.Proofs.YtajdfjpcobaioaaDoor
open Go.RowKit Go.Sort
/-- Two cells of a block. -/
def C2 (w : World) (b : Nat) (x y : Value) : Prop := Arr w b 2 (fun j => if j = 0 then x else y)
theorem C2.new (w : World) (x y : Value) (T : TypeId) : C2 (w.alloc (.cells #[x, y] T)) w.heap.size x y := Arr.new w #[x, y] T _ rfl _ 2 (fun j hj => by
    match j, hj with
    | 0, _ => rfl
    | 1, _ => rfl)
theorem C2.to {w w' : World} {b : Nat} {x y : Value} (h : C2 w b x y) (hb : Below w.heap.size w w') : C2 w' b x y := Arr.to' (n := 1) h hb
theorem C2.al {w : World} {b : Nat} {x y : Value} (h : C2 w b x y) (o : Obj) : C2 (w.alloc o) b x y := Arr.al' (n := 1) h o
theorem C2.lt {w : World} {b : Nat} {x y : Value} (h : C2 w b x y) : b < w.heap.size := Arr.lt (n := 1) h
theorem C2.st {w : World} {b : Nat} {x y : Value} (h : C2 w b x y) {b' k : Nat} (hne : b' ≠ b) (v : Value) : C2 (w.setCell ⟨b', k, none⟩ v) b x y := Arr.other h hne v
theorem C2.all {w : World} {b : Nat} {x y : Value} (h : C2 w b x y) : w.cell? ⟨b, 0, none⟩ = some x ∧ w.cell? ⟨b, 1, none⟩ = some y ∧ w.frozen? ⟨b, 0, none⟩ = false ∧ w.frozen? ⟨b, 1, none⟩ = false := ⟨h.c 0 (by omega), h.c 1 (by omega), h.z 0 (by omega), h.z 1 (by omega)⟩
theorem C2.set {w : World} {b : Nat} {x y : Value} (h : C2 w b x y) (x' y' : Value) : C2 ((w.setCell ⟨b, 0, none⟩ x').setCell ⟨b, 1, none⟩ y') b x' y' := by
  refine Arr.congr ((Arr.set h 0 (by omega) x').set 1 (by omega) y') (fun j hj => ?_)
  match j, hj with
  | 0, _ => rfl
  | 1, _ => rfl
set_option maxHeartbeats 2000000 in
theorem back_a (tg : Int) (body more s A AM : ByteArray) (u : Int) (v r : ByteArray) (f : Int) (c : ByteArray) (w : World) (t0 : 0 ≤ tg) (t1 : tg ≤ 255) (hb : (body.size : Int) ≤ 65535) (hT : Tab w)
    (CW : ∀ W, Calls Tryd.prog 10 #[tlv tg body] W fun e w' => e = .returned (.tuple #[.string A, .int .i64 0]) ∧ Below W.heap.size W w')
    (AD : ∀ W, (Op.stringOp .add A more).run Tryd.prog W = .ok (.string AM) W)
    (CR : ∀ W, Calls Tryd.prog 8 #[.string AM] W fun e w' => e = .returned (.tuple #[tlv tg body, .string more, .int .i64 0]) ∧ Below W.heap.size W w')
    (CS : ∀ W, Calls Tryd.prog 8 #[.string s] W fun e w' => e = .returned (.tuple #[tlv u v, .string r, .int .i64 f]) ∧ Below W.heap.size W w')
    (CV : f = 0 → ∀ W, Calls Tryd.prog 10 #[tlv u v] W fun e w' => e = .returned (.tuple #[.string c, .int .i64 0]) ∧ Below W.heap.size W w')
    (AE : f = 0 → ∀ W, (Op.stringOp .add c r).run Tryd.prog W = .ok (.string s) W)
    (CA : ∀ W, Tab W → Calls Tryd.prog 7 #[] W fun e w' => e = .returned (.bool true) ∧ Below W.heap.size W w') :
    Calls Tryd.prog 4 #[tlv tg body, .string more, .string s] w fun e w' => e = .returned (.bool true) ∧ Below w.heap.size w w' := by
  go_enter Tryd.func4, Tryd.ntmps4
  go_wp2_with fail
  refine (CW _).mono ?_
  rintro e w1 ⟨rfl, hb1⟩
  have K3 := (C2.new w (.int .i64 tg) (.string body) 23).to hb1
  have hB : Below w.heap.size w w1 := Bel.call (by go_grown) hb1
  clear hb1 CW
  obtain ⟨c0, c1, z0, z1⟩ := K3.all
  go_wp2_with fail
  refine (CR _).mono ?_
  rintro e w2 ⟨rfl, hb⟩
  replace K3 := K3.to hb
  replace hB := Bel.call hB hb
  clear hb CR c0 c1 z0 z1 AD
  go_upto_region 6 with (fail)
  have K9 := C2.new w2 (.int .i64 tg) (.string body) 23
  replace K3 := K3.al (.cells #[.int .i64 tg, .string body] 23)
  replace hB := Bel.al hB (.cells #[.int .i64 tg, .string body] 23)
  generalize hq : w2.heap.size = q at *
  generalize w2.alloc (.cells #[.int .i64 tg, .string body] 23) = w3 at *
  obtain ⟨c0, c1, z0, z1⟩ := K3.all
  obtain ⟨d0, d1, y0, y1⟩ := K9.all
  go_wp2_with fail
  clear c0 c1 z0 z1 d0 d1 y0 y1 K3 K9
  refine (CS _).mono ?_
  rintro e w4 ⟨rfl, hb⟩
  replace hB := Bel.call hB hb
  clear hb CS
  by_cases hf : f = 0
  · subst hf
    have CV' := CV rfl
    have AE' := AE rfl
    clear CV AE
    go_upto_region 9 with (fail)
    have K9 := C2.new w4 (.int .i64 u) (.string v) 23
    replace hB := Bel.al hB (.cells #[.int .i64 u, .string v] 23)
    generalize hq : w4.heap.size = q4 at *
    generalize w4.alloc (.cells #[.int .i64 u, .string v] 23) = w5 at *
    obtain ⟨d0, d1, y0, y1⟩ := K9.all
    go_wp2_with fail
    refine (CV' _).mono ?_
    rintro e w6 ⟨rfl, hb⟩
    replace hB := Bel.call hB hb
    clear hb d0 d1 y0 y1 K9 CV'
    go_wp2_with fail
    refine (CA _ (hT.to hB)).mono ?_
    rintro e w7 ⟨rfl, hb⟩
    replace hB := Bel.call hB hb
    clear hb
    go_wp2_with fail
    go_ret
    exact ⟨rfl, hB⟩
  · clear CV AE
    go_upto_region 9 with (fail)
    replace hB := Bel.al hB (.cells #[.int .i64 u, .string v] 23)
    generalize hq : w4.heap.size = q4 at *
    generalize w4.alloc (.cells #[.int .i64 u, .string v] 23) = w5 at *
    go_wp2_with fail
    refine (CA _ (hT.to hB)).mono ?_
    rintro e w7 ⟨rfl, hb⟩
    replace hB := Bel.call hB hb
    clear hb
    go_wp2_with fail
    go_ret
    exact ⟨rfl, hB⟩
set_option maxHeartbeats 2000000 in
theorem back_b (tg : Int) (body more s : ByteArray) (E : Int) (u : Int) (v r : ByteArray) (f : Int) (c : ByteArray) (w : World) (hE : ¬ E = 0) (hn : ¬ (0 ≤ tg ∧ tg ≤ 255 ∧ (body.size : Int) ≤ 65535)) (hT : Tab w)
    (CW : ∀ W, Calls Tryd.prog 10 #[tlv tg body] W fun e w' => e = .returned (.tuple #[.string ⟨#[]⟩, .int .i64 E]) ∧ Below W.heap.size W w')
    (CS : ∀ W, Calls Tryd.prog 8 #[.string s] W fun e w' => e = .returned (.tuple #[tlv u v, .string r, .int .i64 f]) ∧ Below W.heap.size W w')
    (CV : f = 0 → ∀ W, Calls Tryd.prog 10 #[tlv u v] W fun e w' => e = .returned (.tuple #[.string c, .int .i64 0]) ∧ Below W.heap.size W w')
    (AE : f = 0 → ∀ W, (Op.stringOp .add c r).run Tryd.prog W = .ok (.string s) W)
    (CA : ∀ W, Tab W → Calls Tryd.prog 7 #[] W fun e w' => e = .returned (.bool true) ∧ Below W.heap.size W w') :
    Calls Tryd.prog 4 #[tlv tg body, .string more, .string s] w fun e w' => e = .returned (.bool true) ∧ Below w.heap.size w w' := by
  have hc : (tg < 0) ∨ (0 ≤ tg ∧ 255 < tg) ∨ (0 ≤ tg ∧ tg ≤ 255 ∧ 65535 < (body.size : Int)) := by omega
  clear hn
  rcases hc with h | ⟨h, h'⟩ | ⟨h, h', h''⟩
  · go_enter Tryd.func4, Tryd.ntmps4
    go_wp2_with fail
    refine (CW _).mono ?_
    rintro e w1 ⟨rfl, hb1⟩
    have K3 := (C2.new w (.int .i64 tg) (.string body) 23).to hb1
    have hB : Below w.heap.size w w1 := Bel.call (by go_grown) hb1
    clear hb1 CW
    obtain ⟨c0, c1, z0, z1⟩ := K3.all
    go_wp2_with fail
    clear c0 c1 z0 z1 K3
    refine (CS _).mono ?_
    rintro e w4 ⟨rfl, hb⟩
    replace hB := Bel.call hB hb
    clear hb CS
    by_cases hf : f = 0
    · subst hf
      have CV' := CV rfl
      have AE' := AE rfl
      clear CV AE
      go_upto_region 9 with (fail)
      have K9 := C2.new w4 (.int .i64 u) (.string v) 23
      replace hB := Bel.al hB (.cells #[.int .i64 u, .string v] 23)
      generalize hq : w4.heap.size = q4 at *
      generalize w4.alloc (.cells #[.int .i64 u, .string v] 23) = w5 at *
      obtain ⟨d0, d1, y0, y1⟩ := K9.all
      go_wp2_with fail
      refine (CV' _).mono ?_
      rintro e w6 ⟨rfl, hb⟩
      replace hB := Bel.call hB hb
      clear hb d0 d1 y0 y1 K9 CV'
      go_wp2_with fail
      refine (CA _ (hT.to hB)).mono ?_
      rintro e w7 ⟨rfl, hb⟩
      replace hB := Bel.call hB hb
      clear hb
      go_wp2_with fail
      go_ret
      exact ⟨rfl, hB⟩
    · clear CV AE
      go_upto_region 9 with (fail)
      replace hB := Bel.al hB (.cells #[.int .i64 u, .string v] 23)
      generalize hq : w4.heap.size = q4 at *
      generalize w4.alloc (.cells #[.int .i64 u, .string v] 23) = w5 at *
      go_wp2_with fail
      refine (CA _ (hT.to hB)).mono ?_
      rintro e w7 ⟨rfl, hb⟩
      replace hB := Bel.call hB hb
      clear hb
      go_wp2_with fail
      go_ret
      exact ⟨rfl, hB⟩
  · go_enter Tryd.func4, Tryd.ntmps4
    go_wp2_with fail
    refine (CW _).mono ?_
    rintro e w1 ⟨rfl, hb1⟩
    have K3 := (C2.new w (.int .i64 tg) (.string body) 23).to hb1
    have hB : Below w.heap.size w w1 := Bel.call (by go_grown) hb1
    clear hb1 CW
    obtain ⟨c0, c1, z0, z1⟩ := K3.all
    go_wp2_with fail
    clear c0 c1 z0 z1 K3
    refine (CS _).mono ?_
    rintro e w4 ⟨rfl, hb⟩
    replace hB := Bel.call hB hb
    clear hb CS
    by_cases hf : f = 0
    · subst hf
      have CV' := CV rfl
      have AE' := AE rfl
      clear CV AE
      go_upto_region 9 with (fail)
      have K9 := C2.new w4 (.int .i64 u) (.string v) 23
      replace hB := Bel.al hB (.cells #[.int .i64 u, .string v] 23)
      generalize hq : w4.heap.size = q4 at *
      generalize w4.alloc (.cells #[.int .i64 u, .string v] 23) = w5 at *
      obtain ⟨d0, d1, y0, y1⟩ := K9.all
      go_wp2_with fail
      refine (CV' _).mono ?_
      rintro e w6 ⟨rfl, hb⟩
      replace hB := Bel.call hB hb
      clear hb d0 d1 y0 y1 K9 CV'
      go_wp2_with fail
      refine (CA _ (hT.to hB)).mono ?_
      rintro e w7 ⟨rfl, hb⟩
      replace hB := Bel.call hB hb
      clear hb
      go_wp2_with fail
      go_ret
      exact ⟨rfl, hB⟩
    · clear CV AE
      go_upto_region 9 with (fail)
      replace hB := Bel.al hB (.cells #[.int .i64 u, .string v] 23)
      generalize hq : w4.heap.size = q4 at *
      generalize w4.alloc (.cells #[.int .i64 u, .string v] 23) = w5 at *
      go_wp2_with fail
      refine (CA _ (hT.to hB)).mono ?_
      rintro e w7 ⟨rfl, hb⟩
      replace hB := Bel.call hB hb
      clear hb
      go_wp2_with fail
      go_ret
      exact ⟨rfl, hB⟩
  · have h4 : decide ((body.size : Int) ≤ 65535) = false := decide_eq_false (by omega)
    have h5 : (E == 0) = false := by simp [hE]
    go_enter Tryd.func4, Tryd.ntmps4
    go_wp2_with fail
    refine (CW _).mono ?_
    rintro e w1 ⟨rfl, hb1⟩
    have K3 := (C2.new w (.int .i64 tg) (.string body) 23).to hb1
    have hB : Below w.heap.size w w1 := Bel.call (by go_grown) hb1
    clear hb1 CW
    obtain ⟨c0, c1, z0, z1⟩ := K3.all
    go_wp2_with fail
    clear c0 c1 z0 z1 K3
    refine (CS _).mono ?_
    rintro e w4 ⟨rfl, hb⟩
    replace hB := Bel.call hB hb
    clear hb CS
    by_cases hf : f = 0
    · subst hf
      have CV' := CV rfl
      have AE' := AE rfl
      clear CV AE
      go_upto_region 9 with (fail)
      have K9 := C2.new w4 (.int .i64 u) (.string v) 23
      replace hB := Bel.al hB (.cells #[.int .i64 u, .string v] 23)
      generalize hq : w4.heap.size = q4 at *
      generalize w4.alloc (.cells #[.int .i64 u, .string v] 23) = w5 at *
      obtain ⟨d0, d1, y0, y1⟩ := K9.all
      go_wp2_with fail
      refine (CV' _).mono ?_
      rintro e w6 ⟨rfl, hb⟩
      replace hB := Bel.call hB hb
      clear hb d0 d1 y0 y1 K9 CV'
      go_wp2_with fail
      refine (CA _ (hT.to hB)).mono ?_
      rintro e w7 ⟨rfl, hb⟩
      replace hB := Bel.call hB hb
      clear hb
      go_wp2_with fail
      go_ret
      exact ⟨rfl, hB⟩
    · clear CV AE
      go_upto_region 9 with (fail)
      replace hB := Bel.al hB (.cells #[.int .i64 u, .string v] 23)
      generalize hq : w4.heap.size = q4 at *
      generalize w4.alloc (.cells #[.int .i64 u, .string v] 23) = w5 at *
      go_wp2_with fail
      refine (CA _ (hT.to hB)).mono ?_
      rintro e w7 ⟨rfl, hb⟩
      replace hB := Bel.call hB hb
      clear hb
      go_wp2_with fail
      go_ret
      exact ⟨rfl, hB⟩
theorem back_walk (tg : Int) (body more s : ByteArray) (hb : body.size ≤ maxLen) (hm : more.size ≤ 1000000000000000000) (hs : s.size ≤ maxLen) (w : World) (hT : Tab w) :
    Calls Tryd.prog 4 #[tlv tg body, .string more, .string s] w fun e w' => e = .returned (.bool true) ∧ Below w.heap.size w w' := by
  have CA := fun W h => awake_any W h
  have W1 := fun W => write_any tg body hb W
  have R2 := fun W => read_any s hs W
  obtain ⟨u, v, r, f, c, CS, CV, AE⟩ : ∃ (u : Int) (v r : ByteArray) (f : Int) (c : ByteArray), (∀ W, Calls Tryd.prog 8 #[.string s] W fun e w' => e = .returned (.tuple #[tlv u v, .string r, .int .i64 f]) ∧ Below W.heap.size W w') ∧ (f = 0 → ∀ W, Calls Tryd.prog 10 #[tlv u v] W fun e w' => e = .returned (.tuple #[.string c, .int .i64 0]) ∧ Below W.heap.size W w') ∧ (f = 0 → ∀ W, (Op.stringOp .add c r).run Tryd.prog W = .ok (.string s) W) := by
    unfold rdR at R2
    by_cases hE : rdE s = 0
    · rw [if_pos hE] at R2
      obtain ⟨b0, b1, n1, n2, n3, n4⟩ := wr_back s hE
      refine ⟨_, _, _, 0, wrS (bt s 0) (s.extract (rdH s) (rdH s + rdN s)), R2, fun _ W => write_yes _ _ ((wrE_0 _ _).2 ⟨b0, b1, by rw [n3]; exact n1⟩) W, fun _ W => ?_⟩
      have := run_string_add_sum (P := Tryd.prog) W (wrS (bt s 0) (s.extract (rdH s) (rdH s + rdN s))) (s.extract (rdH s + rdN s) s.size) (by
        rw [← ByteArray.size_append, n4]; exact hs)
      rw [n4] at this
      exact this
    · rw [if_neg hE] at R2
      exact ⟨_, _, _, rdE s, ⟨#[]⟩, R2, fun h => absurd h hE, fun h => absurd h hE⟩
  unfold wrR at W1
  by_cases hE : wrE tg body.size = 0
  · rw [if_pos hE] at W1
    obtain ⟨t0, t1, tb⟩ := (wrE_0 _ _).1 hE
    have sz : (wrS tg body).size ≤ 70000 := by
      unfold wrS; rw [ByteArray.size_append, mkS_size]; have := lenL_le (body.size : Int); simp; omega
    have rs : (wrS tg body ++ more).size ≤ maxLen := by rw [ByteArray.size_append]; unfold maxLen; omega
    refine back_a tg body more s (wrS tg body) (wrS tg body ++ more) u v r f c w t0 (by omega) (by omega) hT W1 (fun W => run_string_add_sum W _ _ (by omega)) (fun W => ?_) CS CV AE CA
    have := read_any (wrS tg body ++ more) rs W
    rw [rd_back tg body more t0 t1 tb] at this
    exact this
  · rw [if_neg hE] at W1
    exact back_b tg body more s _ u v r f c w hE (fun h => hE ((wrE_0 _ _).2 ⟨h.1, by omega, by omega⟩)) hT W1 CS CV AE CA
end Go.Proofs.YtajdfjpcobaioaaDoor
