/- Texts joined: QB, QC, QI. -/
import Derived.Shelf.Abstract
import Derived.Deep.Cut
import Derived.Test.YtbhmbdkijpocmaaGreatDoorJ2
/- The program nego: questions (unless, atMost, atLeast, each), what is asked of Bodies, firstError. -/
set_option linter.all false
set_option maxRecDepth 100000
namespace Go.Proofs.YtbhmbdkijpocmaaGreatDoor
open Go.RowKit Go.Shelf Go.Sort
/-- A question: a closure that answers e, from a world on. -/
def Qs (W : World) (v : Value) (e : Int) : Prop := ∃ f cs, v = .func (.func f) #[] cs ∧ (∀ a w, Sem.run Tryz.prog (callFunc f a) w = .ok (.enter f a) w) ∧ ∀ w', Below W.heap.size W w' → Calls Tryz.prog f cs w' fun x w'' => x = .returned (.int .i64 e) ∧ Below w'.heap.size w' w''
theorem Qs.to {W W' : World} {v : Value} {e : Int} (h : Qs W v e) (hb : Below W.heap.size W W') : Qs W' v e := by
  obtain ⟨f, cs, h1, h2, h3⟩ := h
  exact ⟨f, cs, h1, h2, fun w' b => h3 w' (Bel.call hb b)⟩
theorem Qs.cg {W : World} {v : Value} {e e' : Int} (h : Qs W v e) (he : e = e') : Qs W v e' := he ▸ h
/-- What is asked of a Body. -/
def Fs (W : World) (v : Value) (p : ByteArray → Bool) : Prop := ∃ f cs, v = .func (.func f) #[] cs ∧ (cs = #[] ∨ ∃ x, cs = #[x]) ∧ (∀ a w, Sem.run Tryz.prog (callFunc f a) w = .ok (.enter f a) w) ∧ ∀ (s : ByteArray) w', s.size ≤ 9223372036854775807 → Below W.heap.size W w' → Calls Tryz.prog f (#[.string s] ++ cs) w' fun x w'' => x = .returned (.bool (p s)) ∧ Below w'.heap.size w' w''
theorem Fs.to {W W' : World} {v : Value} {p : ByteArray → Bool} (h : Fs W v p) (hb : Below W.heap.size W W') : Fs W' v p := by
  obtain ⟨f, cs, h1, h2, h3, h4⟩ := h
  exact ⟨f, cs, h1, h2, h3, fun s w' hs b => h4 s w' hs (Bel.call hb b)⟩
theorem one_at (v : Value) : ∀ j, j < 1 → (#[v] : Array Value)[j]? = some (([v] : List Value).getD j undef) := fun j hj => by
  match j, hj with
  | 0, _ => rfl
theorem unl1 (b : Bool) (e : Int) (g1 g2 : Nat) (w : World) (h1 : w.cell? ⟨g1, 0, none⟩ = some (.bool b)) (h2 : w.cell? ⟨g2, 0, none⟩ = some (.int .i64 e)) :
    Calls Tryz.prog 66 #[.pointer (some ⟨g1, 0, none⟩), .pointer (some ⟨g2, 0, none⟩)] w fun x w' => x = .returned (.int .i64 (if b = true then 0 else e)) ∧ Below w.heap.size w w' := by
  cases b
  · go_enter Tryz.func66, Tryz.ntmps66
    go_wp2_with fail
    go_ret
    exact ⟨rfl, Below.refl _ _⟩
  · go_enter Tryz.func66, Tryz.ntmps66
    go_wp2_with fail
    go_ret
    exact ⟨rfl, Below.refl _ _⟩
theorem en_unl1 (a : Array Value) (W : World) : Sem.run Tryz.prog (callFunc 66 a) W = .ok (.enter 66 a) W := enters_of Tryz.func66 (by kernel_rfl) rfl a W
theorem en_each1 (a : Array Value) (W : World) : Sem.run Tryz.prog (callFunc 72 a) W = .ok (.enter 72 a) W := enters_of Tryz.func72 (by kernel_rfl) rfl a W
theorem en_ask1 (a : Array Value) (W : World) : Sem.run Tryz.prog (callFunc 25 a) W = .ok (.enter 25 a) W := enters_of Tryz.func25 (by kernel_rfl) rfl a W
theorem en_way1 (a : Array Value) (W : World) : Sem.run Tryz.prog (callFunc 74 a) W = .ok (.enter 74 a) W := enters_of Tryz.func74 (by kernel_rfl) rfl a W
theorem en_ntp (a : Array Value) (W : World) : Sem.run Tryz.prog (callFunc 51 a) W = .ok (.enter 51 a) W := enters_of Tryz.func51 (by kernel_rfl) rfl a W
theorem en_num (a : Array Value) (W : World) : Sem.run Tryz.prog (callFunc 52 a) W = .ok (.enter 52 a) W := enters_of Tryz.func52 (by kernel_rfl) rfl a W
theorem en_cook (a : Array Value) (W : World) : Sem.run Tryz.prog (callFunc 54 a) W = .ok (.enter 54 a) W := enters_of Tryz.func54 (by kernel_rfl) rfl a W
theorem en_host (a : Array Value) (W : World) : Sem.run Tryz.prog (callFunc 26 a) W = .ok (.enter 26 a) W := enters_of Tryz.func26 (by kernel_rfl) rfl a W
theorem en_ports (a : Array Value) (W : World) : Sem.run Tryz.prog (callFunc 55 a) W = .ok (.enter 55 a) W := enters_of Tryz.func55 (by kernel_rfl) rfl a W
theorem fs_ntp (W : World) : Fs W (.func (.func 51) #[] #[]) (fun s => (snB s).2 && decide ((snB s).1 = 0)) := ⟨_, _, rfl, .inl rfl, en_ntp, fun s w' hs _ => pisNtp_any s hs w'⟩
theorem fs_num (W : World) : Fs W (.func (.func 52) #[] #[]) (fun s => (snB s).2) := ⟨_, _, rfl, .inl rfl, en_num, fun s w' hs _ => pisNumber_any s hs w'⟩
theorem fs_ports (W : World) : Fs W (.func (.func 55) #[] #[]) (fun s => (snB s).2 && portB (snB s).1) := ⟨_, _, rfl, .inl rfl, en_ports, fun s w' hs _ => pisPortsText_any s hs w'⟩
theorem fs_cook (W : World) : Fs W (.func (.func 54) #[] #[]) cookB := ⟨_, _, rfl, .inl rfl, en_cook, fun s w' hs _ => (pisCookie_any s hs w').mono fun e w2 ⟨h1, h2⟩ => ⟨h1, by subst h2; exact Below.refl _ _⟩⟩
theorem fs_host (W : World) : Fs W (.func (.func 26) #[] #[]) hostB := ⟨_, _, rfl, .inl rfl, en_host, fun s w' hs _ => (pisHost_any s hs w').mono fun e w2 ⟨h1, h2⟩ => ⟨h1, by subst h2; exact Below.refl _ _⟩⟩
theorem punless_any (b : Bool) (e : Int) (w : World) : Calls Tryz.prog 24 #[.bool b, .int .i64 e] w fun x w' => (∃ v, x = .returned v ∧ Qs w' v (if b = true then 0 else e)) ∧ Below w.heap.size w w' := by
  have A1 := Arr.al' (n := 0) (Arr.new w #[Value.bool b] 4 _ rfl _ 1 (one_at _)) (.cells #[.int .i64 e] 29)
  have A2 := Arr.new (w.alloc (.cells #[.bool b] 4)) #[Value.int .i64 e] 29 _ rfl _ 1 (one_at _)
  have B2 := Bel.al (Bel.al (Below.refl w.heap.size w) (.cells #[.bool b] 4)) (.cells #[.int .i64 e] 29)
  rw [World.size_alloc] at A2
  have Q : Hid (Qs ((w.alloc (.cells #[.bool b] 4)).alloc (.cells #[.int .i64 e] 29)) (.func (.func 66) #[] #[.pointer (some ⟨w.heap.size, 0, none⟩), .pointer (some ⟨w.heap.size + 1, 0, none⟩)]) (if b = true then 0 else e)) :=
    ⟨_, _, rfl, en_unl1, fun w' hb => unl1 b e _ _ w' ((Arr.to' (n := 0) A1 hb).cv 0 (by omega) (.bool b) rfl) ((Arr.to' (n := 0) A2 hb).cv 0 (by omega) (.int .i64 e) rfl)⟩
  clear A1 A2
  generalize (if b = true then 0 else e) = E at *
  go_enter Tryz.func24, Tryz.ntmps24
  go_wp2_with fail
  go_ret
  exact ⟨⟨_, rfl, Q.out⟩, B2⟩
theorem patMost_any (n : Nat) (l : List Ke) (e : Int) (v : Value) (w : World) (H : Kls w v l) (h9 : l.length ≤ 100000) (hn : n ≤ 100000) : Calls Tryz.prog 48 #[.int .i64 (n : Int), v, .int .i64 e] w fun x w' => (∃ u, x = .returned u ∧ Qs w' u (if l.length ≤ n then 0 else e)) ∧ Below w.heap.size w w' := by
  obtain ⟨a, c, rfl, _⟩ := H
  have C := fun b W => punless_any b e W
  have i0 : (l.length : Int) ≤ 100000 := by omega
  have i1 : (n : Int) ≤ 100000 := by omega
  by_cases h : l.length ≤ n
  · rw [if_pos h]
    have j : (l.length : Int) ≤ (n : Int) := by omega
    generalize (l.length : Nat) = m at *
    have C := C true
    rw [if_pos rfl] at C
    go_enter Tryz.func48, Tryz.ntmps48
    go_wp2_with fail
    refine (C _).mono ?_
    rintro x w2 ⟨⟨u, rfl, q⟩, b2⟩
    have Q : Hid _ := q
    clear C q
    obtain ⟨f, cs, rfl, _⟩ := Q.out
    go_wp2_with fail
    go_ret
    exact ⟨⟨_, rfl, Q.out⟩, b2⟩
  · rw [if_neg h]
    have j : ¬ (l.length : Int) ≤ (n : Int) := by omega
    generalize (l.length : Nat) = m at *
    have C := C false
    rw [if_neg (by decide)] at C
    go_enter Tryz.func48, Tryz.ntmps48
    go_wp2_with fail
    refine (C _).mono ?_
    rintro x w2 ⟨⟨u, rfl, q⟩, b2⟩
    have Q : Hid _ := q
    clear C q
    obtain ⟨f, cs, rfl, _⟩ := Q.out
    go_wp2_with fail
    go_ret
    exact ⟨⟨_, rfl, Q.out⟩, b2⟩
theorem patLeast_any (n : Nat) (l : List Ke) (e : Int) (v : Value) (w : World) (H : Kls w v l) (h9 : l.length ≤ 100000) (hn : n ≤ 100000) : Calls Tryz.prog 49 #[.int .i64 (n : Int), v, .int .i64 e] w fun x w' => (∃ u, x = .returned u ∧ Qs w' u (if n ≤ l.length then 0 else e)) ∧ Below w.heap.size w w' := by
  obtain ⟨a, c, rfl, _⟩ := H
  have C := fun b W => punless_any b e W
  have i0 : (l.length : Int) ≤ 100000 := by omega
  have i1 : (n : Int) ≤ 100000 := by omega
  by_cases h : n ≤ l.length
  · rw [if_pos h]
    have j : (n : Int) ≤ (l.length : Int) := by omega
    generalize (l.length : Nat) = m at *
    have C := C true
    rw [if_pos rfl] at C
    go_enter Tryz.func49, Tryz.ntmps49
    go_wp2_with fail
    refine (C _).mono ?_
    rintro x w2 ⟨⟨u, rfl, q⟩, b2⟩
    have Q : Hid _ := q
    clear C q
    obtain ⟨f, cs, rfl, _⟩ := Q.out
    go_wp2_with fail
    go_ret
    exact ⟨⟨_, rfl, Q.out⟩, b2⟩
  · rw [if_neg h]
    have j : ¬ (n : Int) ≤ (l.length : Int) := by omega
    generalize (l.length : Nat) = m at *
    have C := C false
    rw [if_neg (by decide)] at C
    go_enter Tryz.func49, Tryz.ntmps49
    go_wp2_with fail
    refine (C _).mono ?_
    rintro x w2 ⟨⟨u, rfl, q⟩, b2⟩
    have Q : Hid _ := q
    clear C q
    obtain ⟨f, cs, rfl, _⟩ := Q.out
    go_wp2_with fail
    go_ret
    exact ⟨⟨_, rfl, Q.out⟩, b2⟩
set_option maxHeartbeats 4000000 in
theorem each_0 (l : List Ke) (p : ByteArray → Bool) (e : Int) (a : Option Addr) (c : Nat) (f : FuncId) (g0 g1 g2 : Nat) (w : World) (H : Kls w (.slice a l.length c) l) (h9 : l.length ≤ 100000) (hs : ∀ r ∈ l, r.s.size ≤ 9223372036854775807)
    (HE : ∀ a w, Sem.run Tryz.prog (callFunc f a) w = .ok (.enter f a) w) (HF : ∀ (s : ByteArray) w', s.size ≤ 9223372036854775807 → Below w.heap.size w w' → Calls Tryz.prog f #[.string s] w' fun x w'' => x = .returned (.bool (p s)) ∧ Below w'.heap.size w' w'')
    (A0 : Arr w g0 1 (fun j => ([.slice a l.length c] : List Value).getD j undef)) (A1 : Arr w g1 1 (fun j => ([.func (.func f) #[] #[]] : List Value).getD j undef)) (A2 : Arr w g2 1 (fun j => ([.int .i64 e] : List Value).getD j undef)) :
    Calls Tryz.prog 72 #[.pointer (some ⟨g0, 0, none⟩), .pointer (some ⟨g1, 0, none⟩), .pointer (some ⟨g2, 0, none⟩)] w fun x w' => x = .returned (.int .i64 (if (l.all fun r => p r.s) = true then 0 else e)) ∧ Below w.heap.size w w' := by
  obtain ⟨a', c', e', F'⟩ := H
  injection e' with e1 e2 e3
  subst e1 e3
  clear e2
  obtain ⟨n, hn⟩ : ∃ n, l.length = n := ⟨_, rfl⟩
  have HN : Hid (l.length = n) := hn
  have n0 : (n : Int) ≤ 100000 := by omega
  have F : Hid (∀ (i : Nat) (x : Ke), l[i]? = some x → ∃ g o, a = some ⟨g, o, none⟩ ∧ g < w.heap.size ∧ C3 w g (o + i * 3) x) := F'
  have HS : Hid (∀ r ∈ l, r.s.size ≤ 9223372036854775807) := hs
  have HNo : Hid (∀ r ∈ l, p r.s = false → (if (l.all fun r => p r.s) = true then 0 else e) = e) := fun r hr hp => if_neg fun h => by
    have := List.all_eq_true.1 h r hr
    rw [hp] at this
    cases this
  have HYes : Hid ((l.all fun r => p r.s) = true → (if (l.all fun r => p r.s) = true then 0 else e) = 0) := fun h => if_pos h
  have c00 := A0.cv 0 (by omega) (.slice a l.length c) rfl
  rw [hn] at c00
  clear F' hn h9 hs A0
  generalize (if (l.all fun r => p r.s) = true then 0 else e) = D at *
  go_enter Tryz.func72, Tryz.ntmps72
  go_wp2_with fail
  go_loopw [8] (fun i wr => ∃ j : Nat, j ≤ n ∧ i = .int .i64 (j : Int) ∧ Hid (((l.take j).all fun r => p r.s) = true) ∧ Below w.heap.size w wr) (fun i _ => n - (RowKit.intOf i).toNat)
  case atStart => exact ⟨0, by omega, rfl, rfl, Below.refl _ _⟩
  case round =>
    obtain ⟨j, hj, rfl, hA, hB⟩ := hrel
    have j0 : (0 : Int) ≤ (j : Int) := by omega
    by_cases hlt : j < n
    · have j1 : (j : Int) < (n : Int) := by omega
      obtain ⟨x, hx⟩ : ∃ m, l[j]? = some m := ⟨_, List.getElem?_eq_getElem (by rw [HN.out]; exact hlt)⟩
      obtain ⟨g, o, rfl, lt1, r1⟩ := F.out j x hx
      obtain ⟨x0, x1, x2⟩ := r1.to lt1 hB
      have B1 := Bel.al hB (.cells #[.bool x.c, .int .i64 x.k, .string x.s] 50)
      have N1 := Arr.new wr #[Value.bool x.c, .int .i64 x.k, .string x.s] 50 _ rfl _ 3 (keC_at x)
      have c1 := (Arr.to' (n := 0) A1 B1).cv 0 (by omega) (.func (.func f) #[] #[]) rfl
      have hm : x ∈ l := List.mem_of_getElem? hx
      have HP := HF x.s
      have hxs := HS.out x hm
      have HT : Hid (l.take (j + 1) = l.take j ++ [x]) := take_snoc' l j x hx
      have HNx : Hid (p x.s = false → D = e) := HNo.out x hm
      clear hx hm HF HNo F r1 HYes
      go_upto_region 4 with (fail)
      generalize wr.alloc (.cells #[.bool x.c, .int .i64 x.k, .string x.s] 50) = W4 at *
      have c2 := N1.cv 2 (by omega) (.string x.s) rfl
      clear N1 x0 x1 x2
      cases hp : p x.s
      · rw [hp] at HP
        have HD : Hid (D = e) := HNx.out hp
        clear HNx HT hA hp
        go_wp2_with fail
        refine (HP _ hxs B1).mono ?_
        rintro y w5 ⟨rfl, b5⟩
        have B5 := Bel.call B1 b5
        have c3 := (Arr.to' (n := 0) A2 B5).cv 0 (by omega) (.int .i64 e) rfl
        clear HP B1 b5 c1 c2
        go_wp2_with fail
        go_ret
        exact ⟨by rw [HD.out]; rfl, B5⟩
      · rw [hp] at HP
        have hA' : Hid (((l.take (j + 1)).all fun r => p r.s) = true) := by
          show _ = _
          rw [HT.out, List.all_append, hA.out]
          simp [hp]
        clear HNx HT hA hp
        go_wp2_with fail
        refine (HP _ hxs B1).mono ?_
        rintro y w5 ⟨rfl, b5⟩
        have B5 := Bel.call B1 b5
        clear HP B1 b5 c1 c2
        go_wp2_with fail
        exact ⟨⟨j + 1, by omega, by first | rfl | (congr 1; omega) | simp, hA', B5⟩, by simp [RowKit.intOf]; omega⟩
    · have ej : j = n := by omega
      subst ej
      have HT : l.take j = l := List.take_of_length_le (by rw [HN.out]; omega)
      have HD : Hid (D = 0) := HYes.out (by rw [← HT]; exact hA.out)
      clear HT HNo HYes F hA HF
      go_wp2_with fail
      go_ret
      exact ⟨by rw [HD.out]; rfl, hB⟩
set_option maxHeartbeats 4000000 in
theorem each_1 (l : List Ke) (p : ByteArray → Bool) (e : Int) (a : Option Addr) (c : Nat) (f : FuncId) (z : Value) (g0 g1 g2 : Nat) (w : World) (H : Kls w (.slice a l.length c) l) (h9 : l.length ≤ 100000) (hs : ∀ r ∈ l, r.s.size ≤ 9223372036854775807)
    (HE : ∀ a w, Sem.run Tryz.prog (callFunc f a) w = .ok (.enter f a) w) (HF : ∀ (s : ByteArray) w', s.size ≤ 9223372036854775807 → Below w.heap.size w w' → Calls Tryz.prog f #[.string s, z] w' fun x w'' => x = .returned (.bool (p s)) ∧ Below w'.heap.size w' w'')
    (A0 : Arr w g0 1 (fun j => ([.slice a l.length c] : List Value).getD j undef)) (A1 : Arr w g1 1 (fun j => ([.func (.func f) #[] #[z]] : List Value).getD j undef)) (A2 : Arr w g2 1 (fun j => ([.int .i64 e] : List Value).getD j undef)) :
    Calls Tryz.prog 72 #[.pointer (some ⟨g0, 0, none⟩), .pointer (some ⟨g1, 0, none⟩), .pointer (some ⟨g2, 0, none⟩)] w fun x w' => x = .returned (.int .i64 (if (l.all fun r => p r.s) = true then 0 else e)) ∧ Below w.heap.size w w' := by
  obtain ⟨a', c', e', F'⟩ := H
  injection e' with e1 e2 e3
  subst e1 e3
  clear e2
  obtain ⟨n, hn⟩ : ∃ n, l.length = n := ⟨_, rfl⟩
  have HN : Hid (l.length = n) := hn
  have n0 : (n : Int) ≤ 100000 := by omega
  have F : Hid (∀ (i : Nat) (x : Ke), l[i]? = some x → ∃ g o, a = some ⟨g, o, none⟩ ∧ g < w.heap.size ∧ C3 w g (o + i * 3) x) := F'
  have HS : Hid (∀ r ∈ l, r.s.size ≤ 9223372036854775807) := hs
  have HNo : Hid (∀ r ∈ l, p r.s = false → (if (l.all fun r => p r.s) = true then 0 else e) = e) := fun r hr hp => if_neg fun h => by
    have := List.all_eq_true.1 h r hr
    rw [hp] at this
    cases this
  have HYes : Hid ((l.all fun r => p r.s) = true → (if (l.all fun r => p r.s) = true then 0 else e) = 0) := fun h => if_pos h
  have c00 := A0.cv 0 (by omega) (.slice a l.length c) rfl
  rw [hn] at c00
  clear F' hn h9 hs A0
  generalize (if (l.all fun r => p r.s) = true then 0 else e) = D at *
  go_enter Tryz.func72, Tryz.ntmps72
  go_wp2_with fail
  go_loopw [8] (fun i wr => ∃ j : Nat, j ≤ n ∧ i = .int .i64 (j : Int) ∧ Hid (((l.take j).all fun r => p r.s) = true) ∧ Below w.heap.size w wr) (fun i _ => n - (RowKit.intOf i).toNat)
  case atStart => exact ⟨0, by omega, rfl, rfl, Below.refl _ _⟩
  case round =>
    obtain ⟨j, hj, rfl, hA, hB⟩ := hrel
    have j0 : (0 : Int) ≤ (j : Int) := by omega
    by_cases hlt : j < n
    · have j1 : (j : Int) < (n : Int) := by omega
      obtain ⟨x, hx⟩ : ∃ m, l[j]? = some m := ⟨_, List.getElem?_eq_getElem (by rw [HN.out]; exact hlt)⟩
      obtain ⟨g, o, rfl, lt1, r1⟩ := F.out j x hx
      obtain ⟨x0, x1, x2⟩ := r1.to lt1 hB
      have B1 := Bel.al hB (.cells #[.bool x.c, .int .i64 x.k, .string x.s] 50)
      have N1 := Arr.new wr #[Value.bool x.c, .int .i64 x.k, .string x.s] 50 _ rfl _ 3 (keC_at x)
      have c1 := (Arr.to' (n := 0) A1 B1).cv 0 (by omega) (.func (.func f) #[] #[z]) rfl
      have hm : x ∈ l := List.mem_of_getElem? hx
      have HP := HF x.s
      have hxs := HS.out x hm
      have HT : Hid (l.take (j + 1) = l.take j ++ [x]) := take_snoc' l j x hx
      have HNx : Hid (p x.s = false → D = e) := HNo.out x hm
      clear hx hm HF HNo F r1 HYes
      go_upto_region 4 with (fail)
      generalize wr.alloc (.cells #[.bool x.c, .int .i64 x.k, .string x.s] 50) = W4 at *
      have c2 := N1.cv 2 (by omega) (.string x.s) rfl
      clear N1 x0 x1 x2
      cases hp : p x.s
      · rw [hp] at HP
        have HD : Hid (D = e) := HNx.out hp
        clear HNx HT hA hp
        go_wp2_with fail
        refine (HP _ hxs B1).mono ?_
        rintro y w5 ⟨rfl, b5⟩
        have B5 := Bel.call B1 b5
        have c3 := (Arr.to' (n := 0) A2 B5).cv 0 (by omega) (.int .i64 e) rfl
        clear HP B1 b5 c1 c2
        go_wp2_with fail
        go_ret
        exact ⟨by rw [HD.out]; rfl, B5⟩
      · rw [hp] at HP
        have hA' : Hid (((l.take (j + 1)).all fun r => p r.s) = true) := by
          show _ = _
          rw [HT.out, List.all_append, hA.out]
          simp [hp]
        clear HNx HT hA hp
        go_wp2_with fail
        refine (HP _ hxs B1).mono ?_
        rintro y w5 ⟨rfl, b5⟩
        have B5 := Bel.call B1 b5
        clear HP B1 b5 c1 c2
        go_wp2_with fail
        exact ⟨⟨j + 1, by omega, by first | rfl | (congr 1; omega) | simp, hA', B5⟩, by simp [RowKit.intOf]; omega⟩
    · have ej : j = n := by omega
      subst ej
      have HT : l.take j = l := List.take_of_length_le (by rw [HN.out]; omega)
      have HD : Hid (D = 0) := HYes.out (by rw [← HT]; exact hA.out)
      clear HT HNo HYes F hA HF
      go_wp2_with fail
      go_ret
      exact ⟨by rw [HD.out]; rfl, hB⟩
theorem peach_any (l : List Ke) (p : ByteArray → Bool) (e : Int) (v fv : Value) (w : World) (H : Kls w v l) (HF : Fs w fv p) (h9 : l.length ≤ 100000) (hs : ∀ r ∈ l, r.s.size ≤ 9223372036854775807) :
    Calls Tryz.prog 50 #[v, fv, .int .i64 e] w fun x w' => (∃ u, x = .returned u ∧ Qs w' u (if (l.all fun r => p r.s) = true then 0 else e)) ∧ Below w.heap.size w w' := by
  have H' := H
  obtain ⟨a, c, rfl, _⟩ := H
  obtain ⟨f, cs, rfl, hcs, HE, HP⟩ := HF
  have A0 := Arr.al' (n := 0) (Arr.al' (n := 0) (Arr.new w #[Value.slice a l.length c] 26 _ rfl _ 1 (one_at _)) (.cells #[.func (.func f) #[] cs] 45)) (.cells #[.int .i64 e] 29)
  have A1 := Arr.al' (n := 0) (Arr.new (w.alloc (.cells #[.slice a l.length c] 26)) #[Value.func (.func f) #[] cs] 45 _ rfl _ 1 (one_at _)) (.cells #[.int .i64 e] 29)
  have A2 := Arr.new ((w.alloc (.cells #[.slice a l.length c] 26)).alloc (.cells #[.func (.func f) #[] cs] 45)) #[Value.int .i64 e] 29 _ rfl _ 1 (one_at _)
  have B3 := Bel.al (Bel.al (Bel.al (Below.refl w.heap.size w) (.cells #[.slice a l.length c] 26)) (.cells #[.func (.func f) #[] cs] 45)) (.cells #[.int .i64 e] 29)
  rw [World.size_alloc, World.size_alloc] at A2
  rw [World.size_alloc] at A1
  have Q : Hid (Qs (((w.alloc (.cells #[.slice a l.length c] 26)).alloc (.cells #[.func (.func f) #[] cs] 45)).alloc (.cells #[.int .i64 e] 29)) (.func (.func 72) #[] #[.pointer (some ⟨w.heap.size, 0, none⟩), .pointer (some ⟨w.heap.size + 1, 0, none⟩), .pointer (some ⟨w.heap.size + 1 + 1, 0, none⟩)]) (if (l.all fun r => p r.s) = true then 0 else e)) := by
    refine ⟨_, _, rfl, en_each1, fun w' hb => ?_⟩
    have BB := Bel.call B3 hb
    have a0 := Arr.to' (n := 0) A0 hb
    have a1 := Arr.to' (n := 0) A1 hb
    have a2 := Arr.to' (n := 0) A2 hb
    rcases hcs with rfl | ⟨z, rfl⟩
    · exact each_0 l p e a c f _ _ _ w' (H'.to BB) h9 hs HE (fun s W hsz b => HP s W hsz (Bel.call BB b)) a0 a1 a2
    · exact each_1 l p e a c f z _ _ _ w' (H'.to BB) h9 hs HE (fun s W hsz b => HP s W hsz (Bel.call BB b)) a0 a1 a2
  clear A0 A1 A2 H'
  generalize (if (l.all fun r => p r.s) = true then 0 else e) = E at *
  generalize (l.length : Nat) = m at *
  go_enter Tryz.func50, Tryz.ntmps50
  go_wp2_with fail
  go_ret
  exact ⟨⟨_, rfl, Q.out⟩, B3⟩
/-- Whether a Body is a way that was offered. -/
def wayB (ws : List Int) (s : ByteArray) : Bool := (snB s).2 && (decide (0 < ksI (snB s).1) && hasB ws (snB s).1)
set_option maxHeartbeats 2000000 in
theorem way1 (ws : List Int) (s : ByteArray) (v : Value) (g : Nat) (w : World) (H : Nls w v ws) (h9 : ws.length ≤ 9223372036854775807) (hs : s.size ≤ 9223372036854775807) (A : Arr w g 1 (fun j => ([v] : List Value).getD j undef)) :
    Calls Tryz.prog 74 #[.string s, .pointer (some ⟨g, 0, none⟩)] w fun x w' => x = .returned (.bool (wayB ws s)) ∧ Below w.heap.size w w' := by
  have C := fun W => psingle_any s hs W
  unfold wayB
  generalize snB s = p at *
  obtain ⟨n, b⟩ := p
  simp only at C ⊢
  cases b
  · go_enter Tryz.func74, Tryz.ntmps74
    go_wp2_with fail
    refine (C _).mono ?_
    rintro e w2 ⟨rfl, b2⟩
    clear C
    go_wp2_with fail
    go_ret
    exact ⟨rfl, b2⟩
  have C1 := fun W => pKeySize_any n W
  by_cases hk : 0 < ksI n
  · have ek : Hid (decide (0 < ksI n) = true) := decide_eq_true hk
    have D : Hid ((true && (decide (0 < ksI n) && hasB ws n)) = hasB ws n) := by show _ = _; rw [ek.out]; rfl
    have C2 := fun W (h : Nls W v ws) => pContains_any ws n v W h h9
    have hK : Hid (Nls w v ws) := H
    obtain ⟨a, c, rfl, _⟩ := H
    generalize (true && (decide (0 < ksI n) && hasB ws n)) = E at *
    generalize ksI n = k at *
    clear ek
    go_enter Tryz.func74, Tryz.ntmps74
    go_wp2_with fail
    refine (C _).mono ?_
    rintro e w2 ⟨rfl, b2⟩
    have c0 := (Arr.to' (n := 0) A b2).cv 0 (by omega) (.slice a ws.length c) rfl
    have K2 := C2 w2 (hK.out.to b2)
    clear C C2 hK A
    generalize hasB ws n = h at *
    generalize (ws.length : Nat) = m at *
    go_wp2_with fail
    refine (C1 _).mono ?_
    rintro e w3 ⟨rfl, rfl⟩
    clear C1
    go_wp2_with fail
    refine K2.mono ?_
    rintro e w4 ⟨rfl, rfl⟩
    clear K2
    go_wp2_with fail
    go_ret
    exact ⟨by rw [D.out]; rfl, b2⟩
  · have ek : Hid (decide (0 < ksI n) = false) := decide_eq_false hk
    have D : Hid ((true && (decide (0 < ksI n) && hasB ws n)) = false) := by show _ = _; rw [ek.out]; rfl
    generalize (true && (decide (0 < ksI n) && hasB ws n)) = E at *
    generalize ksI n = k at *
    clear ek H A
    go_enter Tryz.func74, Tryz.ntmps74
    go_wp2_with fail
    refine (C _).mono ?_
    rintro e w2 ⟨rfl, b2⟩
    clear C
    go_wp2_with fail
    refine (C1 _).mono ?_
    rintro e w3 ⟨rfl, rfl⟩
    clear C1
    go_wp2_with fail
    go_ret
    exact ⟨by rw [D.out]; rfl, b2⟩
theorem pisWayOf_any (ws : List Int) (v : Value) (w : World) (H : Nls w v ws) (h9 : ws.length ≤ 9223372036854775807) :
    Calls Tryz.prog 53 #[v] w fun x w' => (∃ u, x = .returned u ∧ Fs w' u (wayB ws)) ∧ Below w.heap.size w w' := by
  have A := Arr.new w #[v] 22 _ rfl _ 1 (one_at _)
  have B := Bel.al (Below.refl w.heap.size w) (.cells #[v] 22)
  have Q : Hid (Fs (w.alloc (.cells #[v] 22)) (.func (.func 74) #[] #[.pointer (some ⟨w.heap.size, 0, none⟩)]) (wayB ws)) :=
    ⟨_, _, rfl, .inr ⟨_, rfl⟩, en_way1, fun s w' hs hb => way1 ws s v _ w' (H.to (Bel.call B hb)) h9 hs (Arr.to' (n := 0) A hb)⟩
  obtain ⟨a, c, rfl, _⟩ := H
  clear A
  generalize (ws.length : Nat) = m at *
  go_enter Tryz.func53, Tryz.ntmps53
  go_wp2_with fail
  go_ret
  exact ⟨⟨_, rfl, Q.out⟩, B⟩
end Go.Proofs.YtbhmbdkijpocmaaGreatDoor
/- The program nego: firstError. -/
set_option linter.all false
set_option maxRecDepth 100000
namespace Go.Proofs.YtbhmbdkijpocmaaGreatDoor
open Go.RowKit Go.Shelf Go.Sort
/-- The first of a row of errors that is not 0. -/
def fstL : List Int → Int
  | [] => 0
  | e :: l => if e = 0 then fstL l else e
theorem fst_at : ∀ (es : List Int) (k : Nat), k < es.length → (∀ j, j < k → es.getD j 0 = 0) → es.getD k 0 ≠ 0 → fstL es = es.getD k 0
  | [], k, h, _, _ => absurd h (by simp)
  | e :: l, 0, _, _, hx => by
    show (if e = 0 then _ else e) = e
    rw [if_neg (by simpa using hx)]
  | e :: l, k + 1, hk, h0, hx => by
    have e0 : e = 0 := by simpa using h0 0 (by omega)
    show (if e = 0 then fstL l else e) = _
    rw [if_pos e0]
    exact fst_at l k (by simpa using hk) (fun j hj => by simpa using h0 (j + 1) (by omega)) (by simpa using hx)
theorem fst_none : ∀ (es : List Int), (∀ j, j < es.length → es.getD j 0 = 0) → fstL es = 0
  | [], _ => rfl
  | e :: l, h => by
    have e0 : e = 0 := by simpa using h 0 (by simp)
    show (if e = 0 then fstL l else e) = _
    rw [if_pos e0]
    exact fst_none l fun j hj => by simpa using h (j + 1) (by simpa using hj)
set_option maxHeartbeats 4000000 in
theorem pfirst_any (es : List Int) (vs : List Value) (g : Nat) (w : World) (hn : es.length ≤ 16) (hg : g < w.heap.size) (Ag : Arr w g es.length (fun j => vs.getD j undef)) (H : ∀ j, j < es.length → Qs w (vs.getD j undef) (es.getD j 0)) :
    Calls Tryz.prog 23 #[.slice (some ⟨g, 0, none⟩) es.length es.length] w fun x w' => x = .returned (.int .i64 (fstL es)) ∧ Below w.heap.size w w' := by
  have HA : Hid (∀ k, k < es.length → (∀ j, j < k → es.getD j 0 = 0) → es.getD k 0 ≠ 0 → fstL es = es.getD k 0) := fst_at es
  have HN : Hid ((∀ j, j < es.length → es.getD j 0 = 0) → fstL es = 0) := fst_none es
  have HQ : Hid (∀ j, j < es.length → Qs w (vs.getD j undef) (es.getD j 0)) := H
  clear H
  generalize fstL es = D at *
  generalize hL : es.length = n at *
  clear hL
  go_enter Tryz.func23, Tryz.ntmps23
  go_wp2
  go_loopw [8] (fun i wr => ∃ k : Nat, k ≤ n ∧ i = .int .i64 k ∧ Hid (∀ j, j < k → es.getD j 0 = 0) ∧ Below w.heap.size w wr) (fun i _ => n - (RowKit.intOf i).toNat)
  case atStart => exact ⟨0, by omega, rfl, fun j hj => absurd hj (Nat.not_lt_zero _), Below.refl _ _⟩
  case round =>
    obtain ⟨k, hk, rfl, h0, hB⟩ := hrel
    have k0 : (0 : Int) ≤ (k : Int) := by omega
    by_cases hlt : k < n
    · have k1 : (k : Int) < (n : Int) := by omega
      have hc := (Ag.below hB hg).c k hlt
      obtain ⟨f, cs, hv, HE, HP⟩ := HQ.out k hlt
      rw [hv] at hc
      have HP := HP wr hB
      have HAk : Hid ((∀ j, j < k → es.getD j 0 = 0) → es.getD k 0 ≠ 0 → D = es.getD k 0) := HA.out k hlt
      clear HQ HA hv
      by_cases e : es.getD k 0 = 0
      · have h0' : Hid (∀ j, j < k + 1 → es.getD j 0 = 0) := fun j hj => by
          by_cases q : j = k
          · subst q; exact e
          · exact h0.out j (by omega)
        rw [e] at HP
        clear HAk h0 e
        go_wp2_with fail
        refine HP.mono ?_
        rintro y w1 ⟨rfl, hb⟩
        have hb2 := Bel.call hB hb
        clear HP hb
        go_wp2_with fail
        exact ⟨⟨k + 1, by omega, by go_num, h0', hb2⟩, by simp [RowKit.intOf]; omega⟩
      · have HD : Hid (D = es.getD k 0) := HAk.out h0.out e
        clear HAk h0 HN
        generalize es.getD k 0 = x at *
        have e1 : (x == 0) = false := by simpa using e
        have e2 : (x != 0) = true := by simpa using e
        go_wp2_with fail
        refine HP.mono ?_
        rintro y w1 ⟨rfl, hb⟩
        have hb2 := Bel.call hB hb
        clear HP hb
        go_wp2_with fail
        go_ret
        exact ⟨by rw [HD.out]; rfl, hb2⟩
    · have hkn : k = n := by omega
      subst hkn
      have HD : Hid (D = 0) := HN.out h0.out
      clear HN HA HQ h0
      go_wp2_with fail
      go_ret
      exact ⟨by rw [HD.out]; rfl, hB⟩
end Go.Proofs.YtbhmbdkijpocmaaGreatDoor
/- The program nego: what Accept's questions come to. -/
set_option linter.all false
set_option maxRecDepth 100000
namespace Go.Proofs.YtbhmbdkijpocmaaGreatDoor
open Go.RowKit Go.Shelf Go.Sort
theorem fst_c (c : Prop) [Decidable c] (k : Int) (hk : k ≠ 0) (es : List Int) : fstL ((if c then 0 else k) :: es) = if c then fstL es else k := by
  by_cases h : c
  · rw [if_pos h, if_pos h]; show (if (0 : Int) = 0 then _ else _) = _; rw [if_pos rfl]
  · rw [if_neg h, if_neg h]; show (if k = 0 then _ else k) = _; rw [if_neg hk]
/-- The errors of Accept's questions, in their order. -/
def accL (ws : List Int) (l : List Ke) : List Int :=
  [(if (fdL l 2).length ≤ 0 then 0 else 14), (if unI l 0 < 0 then 0 else 23),
   (if 1 ≤ (fdL l 1).length then 0 else 10), (if (fdL l 1).length ≤ 1 then 0 else 10), (if ((fdL l 1).all fun r => (snB r.s).2 && decide ((snB r.s).1 = 0)) = true then 0 else 10),
   (if 1 ≤ (fdL l 4).length then 0 else 10), (if (fdL l 4).length ≤ 1 then 0 else 10), (if ((fdL l 4).all fun r => (snB r.s).2) = true then 0 else 10), (if ((fdL l 4).all fun r => wayB ws r.s) = true then 0 else 13),
   (if 1 ≤ (fdL l 5).length then 0 else 19), (if (fdL l 5).length ≤ 8 then 0 else 18), (if ((fdL l 5).all fun r => cookB r.s) = true then 0 else 12),
   (if (fdL l 6).length ≤ 1 then 0 else 24), (if (fdL l 7).length ≤ 1 then 0 else 24), (if ((fdL l 6).all fun r => hostB r.s) = true then 0 else 20), (if ((fdL l 7).all fun r => (snB r.s).2 && portB (snB r.s).1) = true then 0 else 13)]
theorem sn_one (l : List Ke) (kd : Int) (r : Ke) (h : fdL l kd = [r]) : snR l kd = snB r.s := by
  unfold snR snB
  rw [h]
  try rfl
theorem acc_p1 (l : List Ke) (X : Int) : (if 1 ≤ (fdL l 1).length then (if (fdL l 1).length ≤ 1 then (if ((fdL l 1).all fun r => (snB r.s).2 && decide ((snB r.s).1 = 0)) = true then X else 10) else 10) else 10) = if (snR l 1).2 = false ∨ (snR l 1).1 ≠ 0 then 10 else X := by
  by_cases h : (fdL l 1).length = 1
  · obtain ⟨r, hr⟩ := one_of _ h
    rw [sn_one l 1 r hr, hr]
    simp only [List.all_cons, List.all_nil, Bool.and_true, List.length_cons, List.length_nil]
    generalize snB r.s = p
    obtain ⟨n, b⟩ := p
    simp only
    cases b <;> by_cases hn : n = 0 <;> simp [hn]
  · rw [(nm_0 l 1 h).2]
    by_cases h1 : 1 ≤ (fdL l 1).length
    · rw [if_pos h1, if_neg (show ¬ (fdL l 1).length ≤ 1 by omega), if_pos (.inl rfl)]
    · rw [if_neg h1, if_pos (.inl rfl)]
theorem acc_p4 (ws : List Int) (l : List Ke) (X : Int) : (if 1 ≤ (fdL l 4).length then (if (fdL l 4).length ≤ 1 then (if ((fdL l 4).all fun r => (snB r.s).2) = true then (if ((fdL l 4).all fun r => wayB ws r.s) = true then X else 13) else 10) else 10) else 10) = if (snR l 4).2 = false then 10 else if hasB ws (snR l 4).1 = false ∨ ksI (snR l 4).1 = 0 then 13 else X := by
  by_cases h : (fdL l 4).length = 1
  · obtain ⟨r, hr⟩ := one_of _ h
    rw [sn_one l 4 r hr, hr]
    simp only [List.all_cons, List.all_nil, Bool.and_true, List.length_cons, List.length_nil]
    unfold wayB
    generalize snB r.s = p
    obtain ⟨n, b⟩ := p
    simp only
    have hk : ksI n = 0 ∨ 0 < ksI n := by rcases ksI_cases n with h | h | h <;> omega
    cases b
    · simp
    · generalize ksI n = k at *
      cases hasB ws n
      · simp
      · rcases hk with rfl | hk
        · simp
        · have : ¬ k = 0 := by omega
          simp [hk, this]
  · rw [(nm_0 l 4 h).2]
    by_cases h1 : 1 ≤ (fdL l 4).length
    · rw [if_pos h1, if_neg (show ¬ (fdL l 4).length ≤ 1 by omega), if_pos rfl]
    · rw [if_neg h1, if_pos rfl]
theorem acc_p5 (n : Nat) (b : Bool) (X : Int) : (if 1 ≤ n then (if n ≤ 8 then (if b = true then X else 12) else 18) else 19) = if n = 0 then 19 else if 8 < n then 18 else if b = false then 12 else X := by
  by_cases h : n = 0
  · rw [if_pos h, if_neg (show ¬ 1 ≤ n by omega)]
  · rw [if_neg h, if_pos (show 1 ≤ n by omega)]
    by_cases h8 : n ≤ 8
    · rw [if_pos h8, if_neg (show ¬ 8 < n by omega)]
      cases b <;> simp
    · rw [if_neg h8, if_pos (show 8 < n by omega)]
theorem acc_p6 (l : List Ke) : (if (fdL l 6).length ≤ 1 then (if (fdL l 7).length ≤ 1 then (if ((fdL l 6).all fun r => hostB r.s) = true then (if ((fdL l 7).all fun r => (snB r.s).2 && portB (snB r.s).1) = true then (0 : Int) else 13) else 20) else 24) else 24) =
    if 1 < (fdL l 6).length ∨ 1 < (fdL l 7).length then 24 else if (fdL l 6).length = 1 ∧ hostB (hdS (fdL l 6)) = false then 20 else if (fdL l 7).length = 1 ∧ ((snR l 7).2 = false ∨ portB (snR l 7).1 = false) then 13 else 0 := by
  by_cases h6 : (fdL l 6).length ≤ 1
  case neg => rw [if_neg h6, if_pos (.inl (by omega))]
  rw [if_pos h6]
  by_cases h7 : (fdL l 7).length ≤ 1
  case neg => rw [if_neg h7, if_pos (.inr (by omega))]
  rw [if_pos h7, if_neg (show ¬ (1 < (fdL l 6).length ∨ 1 < (fdL l 7).length) by omega)]
  have e6 : (((fdL l 6).all fun r => hostB r.s) = true) ↔ ¬ ((fdL l 6).length = 1 ∧ hostB (hdS (fdL l 6)) = false) := by
    by_cases h : (fdL l 6).length = 1
    · obtain ⟨r, hr⟩ := one_of _ h
      rw [hr]
      show (hostB r.s && true) = true ↔ ¬ (_ ∧ hostB r.s = false)
      cases hostB r.s <;> simp
    · have : fdL l 6 = [] := List.eq_nil_of_length_eq_zero (by omega)
      rw [this]
      simp
  have e7 : (((fdL l 7).all fun r => (snB r.s).2 && portB (snB r.s).1) = true) ↔ ¬ ((fdL l 7).length = 1 ∧ ((snR l 7).2 = false ∨ portB (snR l 7).1 = false)) := by
    by_cases h : (fdL l 7).length = 1
    · obtain ⟨r, hr⟩ := one_of _ h
      rw [sn_one l 7 r hr, hr]
      simp only [List.all_cons, List.all_nil, Bool.and_true, List.length_cons, List.length_nil]
      generalize snB r.s = p
      obtain ⟨n, b⟩ := p
      simp only
      cases b <;> cases portB n <;> simp
    · have : fdL l 7 = [] := List.eq_nil_of_length_eq_zero (by omega)
      rw [this]
      simp
  by_cases c6 : (fdL l 6).length = 1 ∧ hostB (hdS (fdL l 6)) = false
  · rw [if_pos c6, if_neg (fun q => e6.1 q c6)]
  · rw [if_neg c6, if_pos (e6.2 c6)]
    by_cases c7 : (fdL l 7).length = 1 ∧ ((snR l 7).2 = false ∨ portB (snR l 7).1 = false)
    · rw [if_pos c7, if_neg (fun q => e7.1 q c7)]
    · rw [if_neg c7, if_pos (e7.2 c7)]
theorem acc_is (ws : List Int) (l : List Ke) : fstL (accL ws l) = accE ws l := by
  unfold accL accE
  rw [fst_c _ 14 (by decide), fst_c _ 23 (by decide), fst_c _ 10 (by decide), fst_c _ 10 (by decide), fst_c _ 10 (by decide), fst_c _ 10 (by decide), fst_c _ 10 (by decide), fst_c _ 10 (by decide), fst_c _ 13 (by decide), fst_c _ 19 (by decide), fst_c _ 18 (by decide), fst_c _ 12 (by decide), fst_c _ 24 (by decide), fst_c _ 24 (by decide), fst_c _ 20 (by decide), fst_c _ 13 (by decide)]
  show (if _ then (if _ then _ else _) else _) = _
  rw [acc_p1, acc_p4, acc_p5, show fstL [] = 0 from rfl, acc_p6]
  by_cases h0 : (fdL l 2).length ≤ 0
  · rw [if_pos h0, if_neg (show ¬ ((fdL l 2).length ≠ 0) by omega)]
    by_cases h1 : unI l 0 < 0
    · rw [if_pos h1, if_neg (show ¬ (0 ≤ unI l 0) by omega)]
    · rw [if_neg h1, if_pos (show 0 ≤ unI l 0 by omega)]
  · rw [if_neg h0, if_pos (show (fdL l 2).length ≠ 0 by omega)]
theorem acc_yes (ws : List Int) (l : List Ke) (h : accE ws l = 0) : (∃ r, fdL l 4 = [r]) ∧ (fdL l 6).length ≤ 1 ∧ (fdL l 7).length ≤ 1 := by
  have g : ∀ (es : List Int), fstL es = 0 → ∀ e ∈ es, e = 0 := fun es => by
    induction es with
    | nil => intro _ e h; cases h
    | cons x t ih =>
      intro h0 e he
      have h0' : (if x = 0 then fstL t else x) = 0 := h0
      have hx : x = 0 := by
        split at h0'
        · assumption
        · exact h0'
      rw [if_pos hx] at h0'
      rcases List.mem_cons.1 he with rfl | he
      · exact hx
      · exact ih h0' e he
  have a := g _ ((acc_is ws l).trans h)
  have k1 := a (if 1 ≤ (fdL l 4).length then 0 else 10) (by unfold accL; simp)
  have k2 := a (if (fdL l 4).length ≤ 1 then 0 else 10) (by unfold accL; simp)
  have k3 := a (if (fdL l 6).length ≤ 1 then 0 else 24) (by unfold accL; simp)
  have k4 := a (if (fdL l 7).length ≤ 1 then 0 else 24) (by unfold accL; simp)
  have u : ∀ (c : Prop) [Decidable c] (k : Int), k ≠ 0 → (if c then (0 : Int) else k) = 0 → c := fun c _ k hk h => by
    split at h
    · assumption
    · exact absurd h hk
  have m1 := u _ _ (by decide) k1
  have m2 := u _ _ (by decide) k2
  exact ⟨one_of _ (by omega), u _ _ (by decide) k3, u _ _ (by decide) k4⟩
end Go.Proofs.YtbhmbdkijpocmaaGreatDoor
