/- PROVED: the function pendulumlaw05.EcdsaHolds answers true for every input, and each argument reads behind the call as it read before; no condition. -/
import Derived.Deep.Cut
import Derived.Test.YtoolbnbfbegjaaaGreatJ39
import Derived.Test.YtoolbnbfbegjaaaGreatJ41
set_option linter.all false
set_option maxRecDepth 100000
namespace Go.Proofs.YtoolbnbfbegjaaaGreat
open Go.ChangeShapes Go.WideShapes Go.ChangeAt Go.RowKit Go.Sort
open Go.Sort (grow)
open Go.ChangeMaps (open_string shut_string)
section
variable [NeZero pN]
theorem rrem (x : Int) (hx : Inn x) (W : World) : Calls Tryz.prog 18 #[nv x, .agg #[.int .u64 0, .int .u64 0, .int .u64 0, .int .u64 0], nv nn] W fun e w' => e = .returned (nv (nr x)) ∧ Below W.heap.size W w' := by
  have := refRem_any x 0 nn hx.1 hx.2 (by decide) (by decide) inn_nn.1 inn_nn.2 W
  rw [md_pos _ nn_pos, Int.zero_mul, Int.add_zero, nv_nil] at this
  exact this
theorem radd_n (x y : Int) (hx : Inn x) (hy : Inn y) (W : World) : Calls Tryz.prog 23 #[nv x, nv y, nv nn] W fun e w' => e = .returned (nv (na x y)) ∧ Below W.heap.size W w' := by
  have := ref2Add_any x y nn hx.1 hx.2 hy.1 hy.2 inn_nn.1 inn_nn.2 W
  rw [md_pos _ nn_pos] at this
  exact this
theorem rmul_n (x y : Int) (hx : Inn x) (hy : Inn y) (W : World) : Calls Tryz.prog 24 #[nv x, nv y, nv nn] W fun e w' => e = .returned (nv (nm x y)) ∧ Below W.heap.size W w' := by
  have := refMul_any x y nn hx.1 hx.2 hy.1 hy.2 inn_nn.1 inn_nn.2 W
  rw [md_pos _ nn_pos] at this
  exact this
theorem un_0 {A : Int} (h : unE A = 0) : unB A = true := by
  unfold unE at h
  by_cases c : unB A = true
  · exact c
  · rw [if_neg c] at h; exact absurd h (by decide)
theorem sgB_good {D K : Int} {s : ByteArray} (h : sgB D K s = 0) : unB D = true ∧ unB K = true ∧ s.size = 32 := by
  unfold sgB at h
  by_cases a : unE D = 0
  · rw [if_pos a] at h
    by_cases b : unE K = 0
    · rw [if_pos b] at h
      refine ⟨un_0 a, un_0 b, ?_⟩
      unfold digE at h
      by_cases c : s.size = 32
      · exact c
      · rw [if_neg c] at h; exact absurd h (by decide)
    · rw [if_neg b] at h; exact absurd h b
  · rw [if_neg a] at h; exact absurd h a
theorem er_good {R S : Int} (h : (if unE R = 0 then unE S else unE R) = 0) : unB R = true ∧ unB S = true := by
  by_cases a : unE R = 0
  · rw [if_pos a] at h; exact ⟨un_0 a, un_0 h⟩
  · rw [if_neg a] at h; exact absurd h a
theorem ne_bool {r : Int} (h : ¬ r = 0) : (r != 0) = true := by simpa using h
theorem ne_beq {r : Int} (h : ¬ r = 0) : (r == 0) = false := by simpa using h
theorem lenE_no {n : Nat} (h : ¬ n = 32) : ¬ lenE n 32 = 0 := by
  unfold lenE
  by_cases a : (n : Int) < 32
  · rw [if_pos a]; decide
  · rw [if_neg a, if_pos (by omega)]; decide
theorem sum_nat {x y R D : Int} (hx : 0 ≤ x) (hy : 0 ≤ y) (hR : 0 ≤ R) (hD : 0 ≤ D) : na (na x y) (nm 2 (nm R D)) = (((x.toNat + y.toNat + 2 * (R.toNat * D.toNat)) % nN : Nat) : Int) := by
  obtain ⟨a, rfl⟩ := Int.eq_ofNat_of_zero_le hx
  obtain ⟨b, rfl⟩ := Int.eq_ofNat_of_zero_le hy
  obtain ⟨c, rfl⟩ := Int.eq_ofNat_of_zero_le hR
  obtain ⟨d, rfl⟩ := Int.eq_ofNat_of_zero_le hD
  unfold na nm
  rw [nn_nN]
  simp only [Int.toNat_natCast]
  push_cast
  generalize (a : Int) = a
  generalize (b : Int) = b
  generalize (c : Int) * (d : Int) = m
  generalize (nN : Int) = n
  rw [Int.mul_emod, Int.emod_emod_of_dvd m (Int.dvd_refl n), ← Int.mul_emod, Int.emod_add_emod, Int.add_emod_emod]
theorem nr_nat {x : Int} (hx : 0 ≤ x) : nr x = ((x.toNat % nN : Nat) : Int) := by
  obtain ⟨a, rfl⟩ := Int.eq_ofNat_of_zero_le hx
  unfold nr
  rw [nn_nN]; simp only [Int.toNat_natCast]; push_cast; rfl
set_option maxHeartbeats 2000000 in
theorem holds_any (D K : Int) (s o : ByteArray) (hD : Inn D) (hK : Inn K) (hs : s.size ≤ maxLen) (hs' : (s.size : Int) ≤ 281474976710656) (ho : o.size ≤ maxLen) (ho' : (o.size : Int) ≤ 281474976710656) (w : World) :
    Calls Tryz.prog 5 #[nv D, nv K, .string s, .string o] w fun e w' => e = .returned (.bool true) ∧ Below w.heap.size w w' := by
  have sd := sec_u D hD
  by_cases uD : unB D = true
  · rw [uD] at sd
    have p := pub_ok D hD uD
    by_cases hb : sgB D K s = 0
    · obtain ⟨_, uK, s32⟩ := sgB_good hb
      obtain ⟨D0, D1⟩ := (unB_iff hD).1 uD
      obtain ⟨K0, K1⟩ := (unB_iff hK).1 uK
      obtain ⟨I, _, _, iv⟩ := inv_ex K K0 K1
      by_cases h2 : (if unE (sgR K) = 0 then unE (sgS D K I (fbN s)) else unE (sgR K)) = 0
      · have q := sgn_ok D K I s hs hD hK iv hb h2
        obtain ⟨uR, uS⟩ := er_good h2
        have hR := inn_sgR K
        have hS := inn_sgS D K I (fbN s)
        obtain ⟨S0, S1⟩ := (unB_iff hS).1 uS
        obtain ⟨R0, R1⟩ := (unB_iff hR).1 uR
        obtain ⟨J, _, _, jv⟩ := inv_ex _ S0 S1
        have hz := inn_fb s
        have hy := inn_fb o
        have oP := p256.mu_on g_on D.toNat
        have c1 := check_ok _ oP (muk_ne D0 D1) s hs s32 _ _ J hR hS uR uS jv
        rw [holds_0 D0 D1 K0 K1 hz.1 iv jv] at c1
        have f1 := refFromBig_u s hs'
        rw [lenE_yes (by omega)] at f1
        have f2 := refFromBig_u o ho'
        by_cases o32 : o.size = 32
        · rw [lenE_yes (by omega)] at f2
          have ra := rrem (fbN s) hz
          have rb := rrem (fbN o) hy
          have q4 := e4_is (inn_nr (fbN s)) (inn_nr (fbN o))
          by_cases e : nr (fbN s) = nr (fbN o)
          · rw [decide_eq_true e] at q4
            exact holds_4 D K _ _ _ _ _ _ _ _ _ s o q4 w p q sd c1 f1 f2 n19 ra rb awake5
          · rw [decide_eq_false e] at q4
            have hF := refAdd_raw (sgR K) nn
            have hcy : cy (sgR K) nn 4 = (sgR K + nn) / top256 := by
              unfold cy
              have e : (18446744073709551616 : Int) ^ 4 = top256 := by decide
              rw [e, Int.emod_eq_of_lt hR.1 hR.2, Int.emod_eq_of_lt inn_nn.1 inn_nn.2]
            rw [hcy] at hF
            have u1 := radd_n _ _ hz hy
            have u2 := rmul_n _ _ hR hD
            have u3 := rmul_n 2 _ inn_2 (inn_nm (sgR K) D)
            rw [nv_2] at u3
            have u4 := radd_n _ _ (inn_na (fbN s) (fbN o)) (inn_nm 2 (nm (sgR K) D))
            have zt := zero24 _ (inn_na (na (fbN s) (fbN o)) (nm 2 (nm (sgR K) D)))
            have c2 := check_ok _ oP (muk_ne D0 D1) o ho o32 _ _ J hR hS uR uS jv
            have key : ¬ sgR K + nn < pp → ¬ na (na (fbN s) (fbN o)) (nm 2 (nm (sgR K) D)) = 0 → hldE (mu am D.toNat gP) (fbN o) (sgR K) J = 16 := by
              intro far nz
              refine holds_16 D0 D1 K0 K1 hz.1 hy.1 iv jv far (fun g => e ?_) (fun g => nz ?_)
              · rw [nr_nat hz.1, nr_nat hy.1, g]
              · rw [sum_nat hz.1 hy.1 hR.1 (by omega), g]; rfl
            by_cases ovf : sgR K + nn < top256
            · rw [Int.ediv_eq_zero_of_lt (by omega) ovf] at hF
              have hc := refCmp_any (sgR K + nn) pp (by omega) ovf inn_pp.1 inn_pp.2
              by_cases far : sgR K + nn < pp
              · exact holds_5 D K _ _ _ _ _ _ _ _ _ _ _ s o q4 (by unfold sg; rw [if_pos far]; decide) w p q sd c1 f1 f2 n19 ra rb hF p49 hc awake5
              · have hn : ¬ sg (sgR K + nn) pp < 0 := by unfold sg; rw [if_neg far]; split <;> decide
                by_cases tz : na (na (fbN s) (fbN o)) (nm 2 (nm (sgR K) D)) = 0
                · rw [decide_eq_true tz] at zt
                  exact holds_6 D K _ _ _ _ _ _ _ _ _ _ _ _ _ _ _ s o q4 hn zt w p q sd c1 f1 f2 n19 ra rb hF p49 hc u1 u2 u3 u4 awake5
                · rw [decide_eq_false tz] at zt
                  rw [key far tz] at c2
                  exact holds_7 D K _ _ _ _ _ _ _ _ _ _ _ _ _ _ _ s o q4 hn zt w p q sd c1 f1 f2 n19 ra rb hF p49 hc u1 u2 u3 u4 c2 awake5
            · have far : ¬ sgR K + nn < pp := fun g => ovf (Int.lt_trans g (by decide))
              have ov : ((sgR K + nn) / top256 == 0) = false := ne_beq (fun g => by
                have := Int.lt_mul_ediv_self_add (x := sgR K + nn) (k := top256) (by decide)
                rw [g] at this; omega)
              by_cases tz : na (na (fbN s) (fbN o)) (nm 2 (nm (sgR K) D)) = 0
              · rw [decide_eq_true tz] at zt
                exact holds_8 D K _ _ _ _ _ _ _ _ _ _ _ _ _ _ _ s o q4 ov zt w p q sd c1 f1 f2 n19 ra rb hF u1 u2 u3 u4 awake5
              · rw [decide_eq_false tz] at zt
                rw [key far tz] at c2
                exact holds_9 D K _ _ _ _ _ _ _ _ _ _ _ _ _ _ _ s o q4 ov zt w p q sd c1 f1 f2 n19 ra rb hF u1 u2 u3 u4 c2 awake5
        · exact holds_3 D K _ _ _ _ _ _ _ _ s o (ne_bool (lenE_no o32)) w p q sd c1 f1 f2 awake5
      · exact holds_2 D K _ _ _ _ (ne_bool h2) s o w p (sgn_zero D K I s hs hD hK iv hb h2) sd awake5
    · exact holds_2 D K _ _ _ _ (ne_bool hb) s o w p (sgn_bad D K s hD hK hb) sd awake5
  · have uD' := un_false uD
    rw [uD'] at sd
    have e : unE D = 13 := by simp [unE, uD']
    have hb : ¬ sgB D K s = 0 := by unfold sgB; rw [e, if_neg (by decide)]; decide
    exact holds_1 D K 13 _ (by decide) (by decide) (ne_bool hb) s o w (pub_bad D hD uD') (sgn_bad D K s hD hK hb) sd awake5
end
set_option maxRecDepth 100000 in
theorem lifted5 (os : Os) (started : os.Started) (H : Type) (enc : TypeId × Value → H) :
    ReturnsInHanded {} Tryz.checked os 5 .any (Rows.ecdsaHoldsSpec.pre6 enc Tryz.prog Tryz.f5 Rows.ecdsaHoldsRow.domain false) (Rows.ecdsaHoldsSpec.post enc Tryz.prog Tryz.f5 false true false false) := by
  refine returnsInHanded_of_change_sized (C := Tryz.checked) own started (by kernel_rfl) Tryz.func5
    (ChangeSpec.witness6 (enc := enc) (C := Tryz.checked) false ⟨#[], #[.agg #[.int .u64 0, .int .u64 0, .int .u64 0, .int .u64 0], .agg #[.int .u64 0, .int .u64 0, .int .u64 0, .int .u64 0], .string ⟨#[]⟩, .string ⟨#[]⟩], []⟩ 8 (by kernel_rfl) (by kernel_rfl) (by kernel_rfl) (by kernel_rfl)) ?_
  intro W base args ds gs before hval0 hW hcnd hsz0 _
  have hval : ∀ (j : Nat) t v, Tryz.f5.params[j]? = some t → args[j]? = some v → Value.okWide Tryz.prog W .any base t v := hval0
  have hW' := hW
  obtain ⟨p, q, hA0, hV, rfl, hfz, hnd⟩ := hW
  have hA : DataW.TrodAll enc Tryz.prog W 0 (fun _ => true) true Tryz.f5.params.toList args.toList ds p := hA0
  have hsz : (DataW.weightsEach Tryz.prog (Tryz.f5.params.toList ++ (Rows.ecdsaHoldsSpec.plain.varTypes Tryz.prog)) (ds ++ gs)).all (· ≤ reachBytes) = true := hsz0
  rw [Tryz.params5] at hA hval hsz
  obtain ⟨v0, vs0, d0, ds0, p0, q0, hargs, rfl, rfl, h0, r0⟩ := trodAll_cons hA
  obtain ⟨v1, vs1, d1, ds1, p1, q1, rfl, rfl, rfl, h1, r1⟩ := trodAll_cons r0
  obtain ⟨v2, vs2, d2, ds2, p2, q2, rfl, rfl, rfl, h2, r2⟩ := trodAll_cons r1
  obtain ⟨v3, vs3, d3, ds3, p3, q3, rfl, rfl, rfl, h3, r3⟩ := trodAll_cons r2
  obtain ⟨rfl, rfl, rfl⟩ := trodAll_nil r3
  obtain rfl : args = #[v0, v1, v2, v3] := by cases args; simp_all
  obtain ⟨rfl, rfl⟩ := trodVars_none hV
  have k0 := h0
  have k1 := h1
  have k2 := h2
  have k3 := h3
  have lt0 : ∀ x ∈ p0, x.block < W.heap.size := by obtain ⟨m, hm⟩ := k0; exact DataW.trod_lt m _ _ _ hm
  have lt1 : ∀ x ∈ p1, x.block < W.heap.size := by obtain ⟨m, hm⟩ := k1; exact DataW.trod_lt m _ _ _ hm
  have lt2 : ∀ x ∈ p2, x.block < W.heap.size := by obtain ⟨m, hm⟩ := k2; exact DataW.trod_lt m _ _ _ hm
  have lt3 : ∀ x ∈ p3, x.block < W.heap.size := by obtain ⟨m, hm⟩ := k3; exact DataW.trod_lt m _ _ _ hm
  obtain ⟨N0, n0, n0', rfl⟩ := open24 (hval 0 24 v0 rfl rfl) h0
  obtain ⟨N1, n1, n1', rfl⟩ := open24 (hval 1 24 v1 rfl rfl) h1
  obtain ⟨S2, rfl, rfl, rfl, hs2⟩ := open_string Tryz.underlying9 (hval 2 9 v2 rfl rfl) h2
  obtain ⟨S3, rfl, rfl, rfl, hs3⟩ := open_string Tryz.underlying9 (hval 3 9 v3 rfl rfl) h3
  have z2' := sized_string hsz (j := 2) (t := 9) rfl rfl
  have z2 : (S2.size : Int) ≤ 281474976710656 := by have h2 := reachBytes_lt; have h3 : S2.data.toList.length = S2.size := rfl; omega
  have z3' := sized_string hsz (j := 3) (t := 9) rfl rfl
  have z3 : (S3.size : Int) ≤ 281474976710656 := by have h2 := reachBytes_lt; have h3 : S3.data.toList.length = S3.size := rfl; omega
  clear hA0 hval0 hsz hsz0
  have nz : NeZero pN := ⟨by decide⟩
  refine (holds_any N0 N1 S2 S3 ⟨n0, n0'⟩ ⟨n1, n1'⟩ hs2 z2 hs3 z3 W).mono fun e W' ⟨he, bel⟩ => ?_
  subst he
  exact ⟨_, rfl, _, _, _, [], _, [], hW', trodAll_mk1 (shut_bool Tryz.underlying4 _), (trodAll_cons_mk (Below.trod laidOut (by kernel_rfl) (of_decide_eq_true (by kernel_rfl)) k0 bel lt0) (trodAll_cons_mk (Below.trod laidOut (by kernel_rfl) (of_decide_eq_true (by kernel_rfl)) k1 bel lt1) (trodAll_cons_mk (Below.trod laidOut (by kernel_rfl) (of_decide_eq_true (by kernel_rfl)) k2 bel lt2) (trodAll_cons_mk (Below.trod laidOut (by kernel_rfl) (of_decide_eq_true (by kernel_rfl)) k3 bel lt3) trodAll_mk0)))), rfl, bel.frame _, fun h => by cases h⟩
theorem ecdsaHolds_holds : Rows.EcdsaHoldsSaid :=
  OpenClaim.holds_of_wide 5 Tryz.f5 rfl rfl rfl rfl rfl rfl rfl ⟨rfl, rfl, rfl, rfl, rfl⟩ rfl rfl rfl rfl rfl (by kernel_rfl) Tryz.func5 (by kernel_rfl)
    (of_decide_eq_true (by kernel_rfl)) (by unfold Func.isWrapper; rw [if_neg (of_decide_eq_false (by kernel_rfl))]; exact ⟨rfl, rfl⟩)
    (fun os started H enc _ => lifted5 os started H enc)
#print axioms ecdsaHolds_holds
end Go.Proofs.YtoolbnbfbegjaaaGreat
