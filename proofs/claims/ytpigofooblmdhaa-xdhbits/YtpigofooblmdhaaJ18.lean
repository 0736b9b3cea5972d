/- What the reference's tail answers: what is left of nine parts. -/
import Derived.Lib.QuietBelow
import Derived.BigQuiet
import Derived.Test.YtpigofooblmdhaaJ4
set_option linter.all false
namespace Go.Proofs.Ytpigofooblmdhaa
open Go.RowKit Go.Sort
def TR (w wr : World) (M : Int) (f : Nat → Int) : Prop :=
  Below w.heap.size w wr ∧ w.heap.size + 1 + 1 < wr.heap.size ∧ Arr wr w.heap.size 9 (fun j => .int .u64 (f j)) ∧ Arr wr (w.heap.size + 1) 4 (fun j => .int .u64 (lim M j)) ∧ Arr wr (w.heap.size + 1 + 1) 4 (fun _ => .int .u64 0)
theorem TR.put {w wr : World} {M : Int} {f : Nat → Int} (h : TR w wr M f) (k : Nat) (hk : k < 9) (v : Int) : TR w (wr.setCell ⟨w.heap.size, k, none⟩ (.int .u64 v)) M (upd f k v) := by
  obtain ⟨a, b, c1, c2, c3⟩ := h
  refine ⟨a.setCell (by show _ ≤ w.heap.size; omega) _, by rw [size_set]; exact b, (c1.set k hk _).congr ?_, c2.other (by omega) _, c3.other (by omega) _⟩
  intro j hj
  unfold upd
  by_cases e : j = k
  · rw [if_pos e, if_pos e]
  · rw [if_neg e, if_neg e]
theorem TR.call {w wr w1 : World} {M : Int} {f : Nat → Int} (h : TR w wr M f) (hb : Below wr.heap.size wr w1) : TR w w1 M f := by
  obtain ⟨a, b, c1, c2, c3⟩ := h
  exact ⟨a.trans (hb.mono a.size), Nat.lt_of_lt_of_le b hb.size, c1.below hb (by omega), c2.below hb (by omega), c3.below hb b⟩
theorem TR.drew {w wr : World} {M : Int} {f : Nat → Int} (h : TR w wr M f) : TR w wr.drew M f := h.call (Below.drew (Below.refl _ _))
def cI (w : World) (b j : Nat) : Int := match w.cell? ⟨b, j, none⟩ with
  | some (.int _ n) => n
  | _ => 0
def wz (w : World) (b i : Nat) (M bb : Int) : Nat := (18446744073709551616 ^ 5 + M - (ps (fr (cI w b) i) 5 - bb * 18446744073709551616 ^ 5)).toNat
theorem TR.wz {w wr : World} {M : Int} {f : Nat → Int} (h : TR w wr M f) (i : Nat) (hi : i < 5) (bb : Int) : wz wr w.heap.size i M bb = (18446744073709551616 ^ 5 + M - (ps (fr f i) 5 - bb * 18446744073709551616 ^ 5)).toNat := by
  unfold Go.Proofs.Ytpigofooblmdhaa.wz
  rw [ps_congr (f := fr (cI wr w.heap.size) i) (g := fr f i) 5]
  intro j hj
  unfold fr cI
  rw [h.2.2.1.c (i + j) (by omega)]
theorem Arr.mk9 {w : World} {b : Nat} {f : Nat → Value} (h0 : w.cell? ⟨b, 0, none⟩ = some (f 0)) (h1 : w.cell? ⟨b, 1, none⟩ = some (f 1)) (h2 : w.cell? ⟨b, 2, none⟩ = some (f 2)) (h3 : w.cell? ⟨b, 3, none⟩ = some (f 3))
    (h4 : w.cell? ⟨b, 4, none⟩ = some (f 4)) (h5 : w.cell? ⟨b, 5, none⟩ = some (f 5)) (h6 : w.cell? ⟨b, 6, none⟩ = some (f 6)) (h7 : w.cell? ⟨b, 7, none⟩ = some (f 7)) (h8 : w.cell? ⟨b, 8, none⟩ = some (f 8)) (z : ∀ j, j < 9 → w.frozen? ⟨b, j, none⟩ = false) : Arr w b 9 f := by
  intro j hj
  refine ⟨?_, z j hj⟩
  have h : j = 0 ∨ j = 1 ∨ j = 2 ∨ j = 3 ∨ j = 4 ∨ j = 5 ∨ j = 6 ∨ j = 7 ∨ j = 8 := by omega
  rcases h with h | h | h | h | h | h | h | h | h <;> subst h <;> assumption
set_option maxRecDepth 100000 in
set_option maxHeartbeats 8000000 in
theorem tail_any (U M : Int) (u : Nat → Int) (h3 : 9223372036854775808 ≤ lim M 3) (hM : 0 < M) (hM' : M < top256) (hT : Hid (TI U M 5 u)) (w : World) :
    Calls Try.prog 61 #[.agg #[.int .u64 (u 0), .int .u64 (u 1), .int .u64 (u 2), .int .u64 (u 3), .int .u64 (u 4), .int .u64 (u 5), .int .u64 (u 6), .int .u64 (u 7), .int .u64 (u 8)], nv M] w fun e w' => e = .returned (nv (U % M)) ∧ Below w.heap.size w w' := by
  go_enter Try.func61, Try.ntmps61
  go_wp2_with fail
  go_loopw [5] (fun i wr => ∃ (n : Nat) (f : Nat → Int), n ≤ 5 ∧ i = .int .i64 ((n : Int) - 1) ∧ TR w wr M f ∧ Hid (TI U M n f)) (fun i _ => (intOf i + 1).toNat)
  case atStart => exact ⟨5, u, by omega, rfl, ⟨by go_grown, by go_size, Arr.mk9 (by simp [go_sem]) (by simp [go_sem]) (by simp [go_sem]) (by simp [go_sem]) (by simp [go_sem]) (by simp [go_sem]) (by simp [go_sem]) (by simp [go_sem]) (by simp [go_sem]) (by simp [go_sem]), Arr.mk4 (by simp [go_sem]) (by simp [go_sem]) (by simp [go_sem]) (by simp [go_sem]) (by simp [go_sem]) (by simp [go_sem]) (by simp [go_sem]) (by simp [go_sem]), Arr.mk4 (by simp [go_sem]) (by simp [go_sem]) (by simp [go_sem]) (by simp [go_sem]) (by simp [go_sem]) (by simp [go_sem]) (by simp [go_sem]) (by simp [go_sem])⟩, hT⟩
  case round =>
    obtain ⟨n, f, hn, rfl, HR, HT⟩ := hrel
    clear hT
    by_cases hn0 : n = 0
    · subst hn0
      have ht := HT.out.end hM
      obtain ⟨q0, q1, q2, q3⟩ := lims_of (N := U % M) (q := 0) (HT.out.1 0).1 (HT.out.1 0).2 (HT.out.1 1).1 (HT.out.1 1).2 (HT.out.1 2).1 (HT.out.1 2).2 (HT.out.1 3).1 (HT.out.1 3).2 (by rw [← ht]; omega)
      obtain ⟨hB, hz, c1, c2, c3⟩ := HR
      have r0 := c1.c 0 (by omega)
      have r1 := c1.c 1 (by omega)
      have r2 := c1.c 2 (by omega)
      have r3 := c1.c 3 (by omega)
      have k3 := c3.c
      have z3 := c3.z
      clear HT ht c1 c2 c3
      go_wp2_with fail
      refine bodyPost_ret (v := nv (U % M)) (by simp [results, Try.results61, go_sem, k3, q0, q1, q2, q3]) rfl ⟨rfl, ?_⟩
      go_grown
    · obtain ⟨i, rfl⟩ : ∃ i, n = i + 1 := ⟨n - 1, by omega⟩
      have ei : ((i + 1 : Nat) : Int) - 1 = (i : Int) := by omega
      rw [ei]
      have hi : i < 5 := by omega
      have i0 : (0 : Int) ≤ (i : Int) := by omega
      have i4 : (i : Int) ≤ 4 := by omega
      have tn4 : ((i : Int) + 4).toNat = i + 4 := by omega
      have tn3 : ((i : Int) + 3).toNat = i + 3 := by omega
      have pf := HT.out.1
      have u4 := pf (i + 4)
      have u3 := pf (i + 3)
      have X0 := (ps_nn (fun j => pf (i + j)) 5).1
      obtain ⟨q, hq0, hq1, hqt, hcase⟩ : ∃ q : Int, 0 ≤ q ∧ q < 18446744073709551616 ∧ ps (fr f i) 5 < (q + 1) * M ∧ ((f (i + 4) < lim M 3 ∧ q = (f (i + 4) * 18446744073709551616 + f (i + 3)) / lim M 3) ∨ (¬ f (i + 4) < lim M 3 ∧ q = 18446744073709551615)) := by
        have m3 := lim_lt M 3
        have pX : ps (fr f i) 5 = f i + 18446744073709551616 * f (i + 1) + 340282366920938463463374607431768211456 * f (i + 2) + 6277101735386680763835789423207666416102355444464034512896 * f (i + 3) + f (i + 4) * 115792089237316195423570985008687907853269984665640564039457584007913129639936 := by rw [ps5]; rfl
        have b0 := pf i
        have b1 := pf (i + 1)
        have b2 := pf (i + 2)
        by_cases c : f (i + 4) < lim M 3
        · have q0 : 0 ≤ (f (i + 4) * 18446744073709551616 + f (i + 3)) / lim M 3 := Int.ediv_nonneg (by omega) (by omega)
          refine ⟨(f (i + 4) * 18446744073709551616 + f (i + 3)) / lim M 3, q0, Int.ediv_lt_of_lt_mul (by omega) (by omega), ?_, .inl ⟨c, rfl⟩⟩
          refine guess_ge (u4 := f (i + 4)) (u3 := f (i + 3)) (rest := f i + 18446744073709551616 * f (i + 1) + 340282366920938463463374607431768211456 * f (i + 2)) (m3 := lim M 3) (mr := M % 6277101735386680763835789423207666416102355444464034512896) (by rw [pX]; omega) (by omega) ?_ (by omega) (by omega) rfl q0
          rw [lim3]; unfold top256 at hM'; omega
        · refine ⟨18446744073709551615, by omega, by omega, ?_, .inr ⟨c, rfl⟩⟩
          have l := HT.out.2.2.1
          have e4 : ps (fr f (i + 1)) 4 = f (i + 1) + 18446744073709551616 * f (i + 2) + 340282366920938463463374607431768211456 * f (i + 3) + 6277101735386680763835789423207666416102355444464034512896 * f (i + 4) := by rw [ps4]; rfl
          rw [pX]; rw [e4] at l; omega
      have HTi : Hid (TI U M (i + 1) f) := HT
      have PF : Hid (Pt f) := pf
      have HQT : Hid (ps (fr f i) 5 < (q + 1) * M) := hqt
      clear HT pf hqt
      rcases hcase with ⟨hc, hq⟩ | ⟨hc, rfl⟩
      · have D := fun W => div64_any (f (i + 4)) (f (i + 3)) (lim M 3) u4.1 hc u3.1 u3.2 h3 (lim_lt _ _) W
        rw [← hq] at D
        clear hq
        have a4 := fun ds os => cell_regrown (HR.2.2.1.c (i + 4) (by omega)) ds os
        have a3 := fun ds os => cell_regrown (HR.2.2.1.c (i + 3) (by omega)) ds os
        have m3 := fun ds os => cell_regrown (HR.2.2.2.1.c 3 (by omega)) ds os
        go_wp2_with fail
        refine wp_region_quiet_below (by kernel_rfl) (by kernel_rfl) ?_
        repeat (go_big_quiet_step (fail))
        refine wpQuiet_nil ?_
        intro _ hw'
        obtain ⟨⟨dq, osq⟩, hw''⟩ := hw'
        subst hw''
        have hbz := below_regrown wr dq osq
        generalize grow (redrawn wr dq) osq = w5 at *
        have HR5 := HR.call hbz
        clear hbz a4 a3 m3 HR
        have HR := HR5
        clear HR5
        have a4 := fun ds os => cell_regrown (HR.2.2.1.c (i + 4) (by omega)) ds os
        have a3 := fun ds os => cell_regrown (HR.2.2.1.c (i + 3) (by omega)) ds os
        have m3 := fun ds os => cell_regrown (HR.2.2.2.1.c 3 (by omega)) ds os
        go_wp2_with fail
        refine wp_region_quiet_below (by kernel_rfl) (by kernel_rfl) ?_
        repeat (go_big_quiet_step (first | (go_at_call 93; exact Calls.regrown_of (D _))))
        refine wpQuiet_nil ?_
        intro _ hw'
        obtain ⟨⟨dq, osq⟩, hw''⟩ := hw'
        subst hw''
        have hbz := below_regrown w5 dq osq
        generalize grow (redrawn w5 dq) osq = w6 at *
        have HR6 := HR.call hbz
        clear hbz a4 a3 m3 HR D hc u3 u4
        have HR := HR6
        clear HR6
        go_wp2_with fail
        go_loopw [7, 8, 9] (fun cc bb kk wr => ∃ (k : Nat) (g : Nat → Int) (c b : Int), k ≤ 4 ∧ kk = .int .i64 k ∧ cc = .int .u64 c ∧ bb = .int .u64 b ∧ TR w wr M g ∧ Hid (SubI f g M q i k c b)) (fun _ _ kk _ => 4 - (intOf kk).toNat)
        case atStart => exact ⟨0, f, 0, 0, by omega, rfl, rfl, rfl, HR, SubI.start PF.out M q i⟩
        case round =>
          clear HR
          obtain ⟨k, g, c, b, hk, rfl, rfl, rfl, HR, HS⟩ := hrel
          have s1 := HS.out.1
          have s2 := HS.out.2.1
          have s3 := HS.out.2.2.1
          have s4 := HS.out.2.2.2.1
          have s5 := HS.out.2.2.2.2.1
          by_cases hlt : k < 4
          · have k0 : (0 : Int) ≤ (k : Int) := by omega
            have k4 : (k : Int) < 4 := by omega
            have gk := s1 (i + k)
            obtain ⟨hi', lo, hh, hh', hl, hl', e1, M1⟩ := ex49 q (lim M k) (by omega) (by omega) (lim_nn _ _) (lim_lt _ _)
            obtain ⟨s, d, hs, hs', hd, hd', e2, A1⟩ := ex45 lo c 0 hl hl' s2 s3 (by omega) (by omega)
            obtain ⟨r, b', hr, hr', hb, hb', e3, S1⟩ := ex47 (g (i + k)) s b gk.1 gk.2 hs hs' s4 s5
            have HS' : Hid (SubI f (upd g (i + k) r) M q i (k + 1) (hi' + d) b') := HS.out.step (by omega) e2 e3 hr hr' hb hb' (by omega) (by omega)
            have bd : hi' + d ≤ 18446744073709551615 := by omega
            have tnk : ((i : Int) + (k : Int)).toNat = i + k := by omega
            have rd := HR.2.2.1.c (i + k) (by omega)
            have rz := HR.2.2.1.z (i + k) (by omega)
            have rm := HR.2.2.2.1.c k hlt
            have HR' : Hid (TR w (wr.setCell ⟨w.heap.size, i + k, none⟩ (.int .u64 r)) M (upd g (i + k) r)) := HR.put (i + k) (by omega) r
            clear HS HR e1 e2 e3 s1
            go_wp2_with (go_at_call 86; refine (M1 _).mono ?_; rintro e w' ⟨rfl, rfl⟩)
            go_roundw
            case rel => exact ⟨k + 1, upd g (i + k) r, hi' + d, b', by omega, by go_num, rfl, rfl, HR'.out, HS'⟩
            case measure => simp [intOf]; omega
          · have k4 : k = 4 := by omega
            subst k4
            have g4 := s1 (i + 4)
            obtain ⟨r, b', hr, hr', hb, hb', e3, S1⟩ := ex47 (g (i + 4)) c b g4.1 g4.2 s2 s3 s4 s5
            have HB : Hid (BackI f (upd g (i + 4) r) M (ps (fr f i) 5) i b') := HS.out.done (by omega) hM' (by omega) _ rfl HQT.out e3 hr hr' hb hb'
            have rd := HR.2.2.1.c (i + 4) (by omega)
            have rz := HR.2.2.1.z (i + 4) (by omega)
            have HR' : TR w (wr.setCell ⟨w.heap.size, i + 4, none⟩ (.int .u64 r)) M (upd g (i + 4) r) := HR.put (i + 4) (by omega) r
            clear HS HR e3 s1
            go_wp2_with fail
            clear rd rz S1
            go_loopw [8] (fun bb wr => ∃ (g : Nat → Int) (b : Int), bb = .int .u64 b ∧ TR w wr M g ∧ Hid (BackI f g M (ps (fr f i) 5) i b)) (fun bb wr => wz wr w.heap.size i M (intOf bb))
            case atStart => exact ⟨_, b', rfl, HR', HB⟩
            case round =>
              clear HR' HB g4 s2 s3 s4 s5
              obtain ⟨g, b, rfl, HR, HB⟩ := hrel
              have b0 := HB.out.2.1
              have b1 := HB.out.2.2.1
              have s1 := HB.out.1
              by_cases hb1 : b = 1
              · subst hb1
                have WZ : Hid (wz wr w.heap.size i M 1 = (18446744073709551616 ^ 5 + M - (ps (fr g i) 5 - 1 * 18446744073709551616 ^ 5)).toNat) := HR.wz i hi 1
                go_wp2_with fail
                go_loopw [14, 15] (fun dd kk wr => ∃ (k : Nat) (h : Nat → Int) (d : Int), k ≤ 4 ∧ kk = .int .i64 k ∧ dd = .int .u64 d ∧ TR w wr M h ∧ Hid (AddI g h M i k d)) (fun _ kk _ => 4 - (intOf kk).toNat)
                case atStart => exact ⟨0, g, 0, by omega, rfl, rfl, HR, AddI.start s1 M i⟩
                case round =>
                  clear HR
                  obtain ⟨k, h, d, hk, rfl, rfl, HR, HA⟩ := hrel
                  have t1 := HA.out.1
                  have t2 := HA.out.2.1
                  have t3 := HA.out.2.2.1
                  by_cases hlt : k < 4
                  · have k0 : (0 : Int) ≤ (k : Int) := by omega
                    have k4 : (k : Int) < 4 := by omega
                    have gk := t1 (i + k)
                    obtain ⟨s, d', hs, hs', hd, hd', e2, A1⟩ := ex45 (h (i + k)) (lim M k) d gk.1 gk.2 (lim_nn _ _) (lim_lt _ _) t2 t3
                    have HA' : Hid (AddI g (upd h (i + k) s) M i (k + 1) d') := HA.out.step e2 hs hs' hd hd'
                    have tnk : ((i : Int) + (k : Int)).toNat = i + k := by omega
                    have ik0 : (0 : Int) ≤ (i : Int) + (k : Int) := by omega
                    have hwk : IntKind.i64.wrap ((i : Int) + (k : Int)) = (i : Int) + (k : Int) := by rw [IntKind.wrap_i64]; omega
                    have ik9 : (i : Int) + (k : Int) < 9 := by omega
                    have rd := HR.2.2.1.c (i + k) (by omega)
                    have rz := HR.2.2.1.z (i + k) (by omega)
                    have rm := HR.2.2.2.1.c k hlt
                    have HR' : ∀ W, TR w W M h → TR w (W.setCell ⟨w.heap.size, i + k, none⟩ (.int .u64 s)) M (upd h (i + k) s) := fun W hW => hW.put (i + k) (by omega) s
                    have HR0 : Hid (TR w wr M h) := HR
                    have HRH : Hid (∀ W, TR w W M h → TR w (W.setCell ⟨w.heap.size, i + k, none⟩ (.int .u64 s)) M (upd h (i + k) s)) := HR'
                    clear HA HR HR' e2 t1
                    go_wp2_with fail
                    go_region
                    all_goals
                      go_wp2_with fail
                      go_roundw
                      case rel => exact ⟨k + 1, upd h (i + k) s, d', by omega, by go_num, rfl, (HRH.out _ HR0.out).drew, HA'⟩
                      case measure => simp [intOf]; omega
                  · have k4 : k = 4 := by omega
                    subst k4
                    have g4 := t1 (i + 4)
                    obtain ⟨r, d', hr, hr', hd, hd', e3, A1⟩ := ex45 (h (i + 4)) 0 d g4.1 g4.2 (by omega) (by omega) t2 t3
                    obtain ⟨hb2, he2⟩ := HA.out.done HB.out X0 (by omega) hM' e3 hr hr' hd hd'
                    have HB' : Hid (BackI f (upd h (i + 4) r) M (ps (fr f i) 5) i (1 - d')) := hb2
                    have HE : Hid (ps (fr (upd h (i + 4) r) i) 5 - (1 - d') * 18446744073709551616 ^ 5 = ps (fr g i) 5 - 1 * 18446744073709551616 ^ 5 + M) := he2
                    have rd := HR.2.2.1.c (i + 4) (by omega)
                    have rz := HR.2.2.1.z (i + 4) (by omega)
                    have HR' : Hid (TR w (wr.setCell ⟨w.heap.size, i + 4, none⟩ (.int .u64 r)) M (upd h (i + 4) r)) := HR.put (i + 4) (by omega) r
                    have bd : 0 ≤ 1 - d' := by omega
                    have bd2 : 1 - d' ≤ 18446744073709551615 := by omega
                    clear hb2 he2 HA HR e3 t1
                    go_wp2_with fail
                    go_roundw
                    case rel => exact ⟨upd h (i + 4) r, 1 - d', rfl, HR'.out, HB'⟩
                    case measure =>
                      have e1 := HR'.out.wz i hi (1 - d')
                      have e2 := HE.out
                      have e3 := WZ.out
                      have n5 := ps_nn (fun j => HB.out.1 (i + j)) 5
                      simp only [intOf]
                      rw [e1, e3, e2]
                      have n6 : ps (fr g i) 5 < 18446744073709551616 ^ 5 := n5.2
                      generalize ps (fr g i) 5 = Y at *
                      have hp : (18446744073709551616 : Int) ^ 5 = 2135987035920910082395021706169552114602704522356652769947041607822219725780640550022962086936576 := by decide
                      rw [hp] at *
                      omega
              · have hb0 : b = 0 := by omega
                subst hb0
                have HT' : Hid (TI U M i g) := HB.out.done hi rfl hM hM' HTi.out
                have HR0 : Hid (TR w wr M g) := HR
                clear HB HR s1
                go_wp2_with fail
                go_roundw
                case rel => exact ⟨i, g, by omega, by go_num, HR0.out, HT'⟩
                case measure => simp [intOf]
      · have a4 := fun ds os => cell_regrown (HR.2.2.1.c (i + 4) (by omega)) ds os
        have a3 := fun ds os => cell_regrown (HR.2.2.1.c (i + 3) (by omega)) ds os
        have m3 := fun ds os => cell_regrown (HR.2.2.2.1.c 3 (by omega)) ds os
        go_wp2_with fail
        refine wp_region_quiet_below (by kernel_rfl) (by kernel_rfl) ?_
        repeat (go_big_quiet_step (fail))
        refine wpQuiet_nil ?_
        intro _ hw'
        obtain ⟨⟨dq, osq⟩, hw''⟩ := hw'
        subst hw''
        have hbz := below_regrown wr dq osq
        generalize grow (redrawn wr dq) osq = w6 at *
        have HR6 := HR.call hbz
        clear hbz a4 a3 m3 HR u3 u4
        have HR := HR6
        clear HR6
        go_wp2_with fail
        go_loopw [7, 8, 9] (fun cc bb kk wr => ∃ (k : Nat) (g : Nat → Int) (c b : Int), k ≤ 4 ∧ kk = .int .i64 k ∧ cc = .int .u64 c ∧ bb = .int .u64 b ∧ TR w wr M g ∧ Hid (SubI f g M 18446744073709551615 i k c b)) (fun _ _ kk _ => 4 - (intOf kk).toNat)
        case atStart => exact ⟨0, f, 0, 0, by omega, rfl, rfl, rfl, HR, SubI.start PF.out M 18446744073709551615 i⟩
        case round =>
          clear HR
          obtain ⟨k, g, c, b, hk, rfl, rfl, rfl, HR, HS⟩ := hrel
          have s1 := HS.out.1
          have s2 := HS.out.2.1
          have s3 := HS.out.2.2.1
          have s4 := HS.out.2.2.2.1
          have s5 := HS.out.2.2.2.2.1
          by_cases hlt : k < 4
          · have k0 : (0 : Int) ≤ (k : Int) := by omega
            have k4 : (k : Int) < 4 := by omega
            have gk := s1 (i + k)
            obtain ⟨hi', lo, hh, hh', hl, hl', e1, M1⟩ := ex49 18446744073709551615 (lim M k) (by omega) (by omega) (lim_nn _ _) (lim_lt _ _)
            obtain ⟨s, d, hs, hs', hd, hd', e2, A1⟩ := ex45 lo c 0 hl hl' s2 s3 (by omega) (by omega)
            obtain ⟨r, b', hr, hr', hb, hb', e3, S1⟩ := ex47 (g (i + k)) s b gk.1 gk.2 hs hs' s4 s5
            have HS' : Hid (SubI f (upd g (i + k) r) M 18446744073709551615 i (k + 1) (hi' + d) b') := HS.out.step (by omega) e2 e3 hr hr' hb hb' (by omega) (by omega)
            have bd : hi' + d ≤ 18446744073709551615 := by omega
            have tnk : ((i : Int) + (k : Int)).toNat = i + k := by omega
            have rd := HR.2.2.1.c (i + k) (by omega)
            have rz := HR.2.2.1.z (i + k) (by omega)
            have rm := HR.2.2.2.1.c k hlt
            have HR' : Hid (TR w (wr.setCell ⟨w.heap.size, i + k, none⟩ (.int .u64 r)) M (upd g (i + k) r)) := HR.put (i + k) (by omega) r
            clear HS HR e1 e2 e3 s1
            go_wp2_with (go_at_call 86; refine (M1 _).mono ?_; rintro e w' ⟨rfl, rfl⟩)
            go_roundw
            case rel => exact ⟨k + 1, upd g (i + k) r, hi' + d, b', by omega, by go_num, rfl, rfl, HR'.out, HS'⟩
            case measure => simp [intOf]; omega
          · have k4 : k = 4 := by omega
            subst k4
            have g4 := s1 (i + 4)
            obtain ⟨r, b', hr, hr', hb, hb', e3, S1⟩ := ex47 (g (i + 4)) c b g4.1 g4.2 s2 s3 s4 s5
            have HB : Hid (BackI f (upd g (i + 4) r) M (ps (fr f i) 5) i b') := HS.out.done (by omega) hM' (by omega) _ rfl HQT.out e3 hr hr' hb hb'
            have rd := HR.2.2.1.c (i + 4) (by omega)
            have rz := HR.2.2.1.z (i + 4) (by omega)
            have HR' : TR w (wr.setCell ⟨w.heap.size, i + 4, none⟩ (.int .u64 r)) M (upd g (i + 4) r) := HR.put (i + 4) (by omega) r
            clear HS HR e3 s1
            go_wp2_with fail
            clear rd rz S1
            go_loopw [8] (fun bb wr => ∃ (g : Nat → Int) (b : Int), bb = .int .u64 b ∧ TR w wr M g ∧ Hid (BackI f g M (ps (fr f i) 5) i b)) (fun bb wr => wz wr w.heap.size i M (intOf bb))
            case atStart => exact ⟨_, b', rfl, HR', HB⟩
            case round =>
              clear HR' HB g4 s2 s3 s4 s5
              obtain ⟨g, b, rfl, HR, HB⟩ := hrel
              have b0 := HB.out.2.1
              have b1 := HB.out.2.2.1
              have s1 := HB.out.1
              by_cases hb1 : b = 1
              · subst hb1
                have WZ : Hid (wz wr w.heap.size i M 1 = (18446744073709551616 ^ 5 + M - (ps (fr g i) 5 - 1 * 18446744073709551616 ^ 5)).toNat) := HR.wz i hi 1
                go_wp2_with fail
                go_loopw [14, 15] (fun dd kk wr => ∃ (k : Nat) (h : Nat → Int) (d : Int), k ≤ 4 ∧ kk = .int .i64 k ∧ dd = .int .u64 d ∧ TR w wr M h ∧ Hid (AddI g h M i k d)) (fun _ kk _ => 4 - (intOf kk).toNat)
                case atStart => exact ⟨0, g, 0, by omega, rfl, rfl, HR, AddI.start s1 M i⟩
                case round =>
                  clear HR
                  obtain ⟨k, h, d, hk, rfl, rfl, HR, HA⟩ := hrel
                  have t1 := HA.out.1
                  have t2 := HA.out.2.1
                  have t3 := HA.out.2.2.1
                  by_cases hlt : k < 4
                  · have k0 : (0 : Int) ≤ (k : Int) := by omega
                    have k4 : (k : Int) < 4 := by omega
                    have gk := t1 (i + k)
                    obtain ⟨s, d', hs, hs', hd, hd', e2, A1⟩ := ex45 (h (i + k)) (lim M k) d gk.1 gk.2 (lim_nn _ _) (lim_lt _ _) t2 t3
                    have HA' : Hid (AddI g (upd h (i + k) s) M i (k + 1) d') := HA.out.step e2 hs hs' hd hd'
                    have tnk : ((i : Int) + (k : Int)).toNat = i + k := by omega
                    have ik0 : (0 : Int) ≤ (i : Int) + (k : Int) := by omega
                    have hwk : IntKind.i64.wrap ((i : Int) + (k : Int)) = (i : Int) + (k : Int) := by rw [IntKind.wrap_i64]; omega
                    have ik9 : (i : Int) + (k : Int) < 9 := by omega
                    have rd := HR.2.2.1.c (i + k) (by omega)
                    have rz := HR.2.2.1.z (i + k) (by omega)
                    have rm := HR.2.2.2.1.c k hlt
                    have HR' : ∀ W, TR w W M h → TR w (W.setCell ⟨w.heap.size, i + k, none⟩ (.int .u64 s)) M (upd h (i + k) s) := fun W hW => hW.put (i + k) (by omega) s
                    have HR0 : Hid (TR w wr M h) := HR
                    have HRH : Hid (∀ W, TR w W M h → TR w (W.setCell ⟨w.heap.size, i + k, none⟩ (.int .u64 s)) M (upd h (i + k) s)) := HR'
                    clear HA HR HR' e2 t1
                    go_wp2_with fail
                    go_region
                    all_goals
                      go_wp2_with fail
                      go_roundw
                      case rel => exact ⟨k + 1, upd h (i + k) s, d', by omega, by go_num, rfl, (HRH.out _ HR0.out).drew, HA'⟩
                      case measure => simp [intOf]; omega
                  · have k4 : k = 4 := by omega
                    subst k4
                    have g4 := t1 (i + 4)
                    obtain ⟨r, d', hr, hr', hd, hd', e3, A1⟩ := ex45 (h (i + 4)) 0 d g4.1 g4.2 (by omega) (by omega) t2 t3
                    obtain ⟨hb2, he2⟩ := HA.out.done HB.out X0 (by omega) hM' e3 hr hr' hd hd'
                    have HB' : Hid (BackI f (upd h (i + 4) r) M (ps (fr f i) 5) i (1 - d')) := hb2
                    have HE : Hid (ps (fr (upd h (i + 4) r) i) 5 - (1 - d') * 18446744073709551616 ^ 5 = ps (fr g i) 5 - 1 * 18446744073709551616 ^ 5 + M) := he2
                    have rd := HR.2.2.1.c (i + 4) (by omega)
                    have rz := HR.2.2.1.z (i + 4) (by omega)
                    have HR' : Hid (TR w (wr.setCell ⟨w.heap.size, i + 4, none⟩ (.int .u64 r)) M (upd h (i + 4) r)) := HR.put (i + 4) (by omega) r
                    have bd : 0 ≤ 1 - d' := by omega
                    have bd2 : 1 - d' ≤ 18446744073709551615 := by omega
                    clear hb2 he2 HA HR e3 t1
                    go_wp2_with fail
                    go_roundw
                    case rel => exact ⟨upd h (i + 4) r, 1 - d', rfl, HR'.out, HB'⟩
                    case measure =>
                      have e1 := HR'.out.wz i hi (1 - d')
                      have e2 := HE.out
                      have e3 := WZ.out
                      have n5 := ps_nn (fun j => HB.out.1 (i + j)) 5
                      simp only [intOf]
                      rw [e1, e3, e2]
                      have n6 : ps (fr g i) 5 < 18446744073709551616 ^ 5 := n5.2
                      generalize ps (fr g i) 5 = Y at *
                      have hp : (18446744073709551616 : Int) ^ 5 = 2135987035920910082395021706169552114602704522356652769947041607822219725780640550022962086936576 := by decide
                      rw [hp] at *
                      omega
              · have hb0 : b = 0 := by omega
                subst hb0
                have HT' : Hid (TI U M i g) := HB.out.done hi rfl hM hM' HTi.out
                have HR0 : Hid (TR w wr M g) := HR
                clear HB HR s1
                go_wp2_with fail
                go_roundw
                case rel => exact ⟨i, g, by omega, by go_num, HR0.out, HT'⟩
                case measure => simp [intOf]
end Go.Proofs.Ytpigofooblmdhaa
