/- PROVED: the function pendulumlaw03.XdhBits answers true for every input, and each argument reads behind the call as it read before; no condition. -/
import Derived.Laws.BitsAllLaws
import Derived.Test.YtpigofooblmdhaaJ37
set_option linter.all false
set_option maxRecDepth 100000
namespace Go.Proofs.Ytpigofooblmdhaa
open Go.ChangeShapes Go.WideShapes Go.ChangeAt Go.RowKit
open Go.ChangeMaps (open_string shut_string)
theorem byd0 (z : Int) (h0 : 0 ≤ z) (h1 : z < 256) : bits .and .u8 z 248 = z / 8 * 8 := by
  have k : ∀ q : Fin 256, bits .and .u8 ((q.val : Nat) : Int) 248 = ((q.val : Nat) : Int) / 8 * 8 := by decide +kernel
  have := k ⟨z.toNat, by omega⟩
  rw [show ((z.toNat : Nat) : Int) = z by omega] at this; exact this
theorem byd1 (z : Int) (h0 : 0 ≤ z) (h1 : z < 256) : bits .and .u8 z 7 = z % 8 := by
  have k : ∀ q : Fin 256, bits .and .u8 ((q.val : Nat) : Int) 7 = ((q.val : Nat) : Int) % 8 := by decide +kernel
  have := k ⟨z.toNat, by omega⟩
  rw [show ((z.toNat : Nat) : Int) = z by omega] at this; exact this
theorem byd2 (z : Int) (h0 : 0 ≤ z) (h1 : z < 256) : bits .and .u8 z 128 = z / 128 * 128 := by
  have k : ∀ q : Fin 256, bits .and .u8 ((q.val : Nat) : Int) 128 = ((q.val : Nat) : Int) / 128 * 128 := by decide +kernel
  have := k ⟨z.toNat, by omega⟩
  rw [show ((z.toNat : Nat) : Int) = z by omega] at this; exact this
theorem byd3 (q r : Int) (h0 : 0 ≤ q) (h1 : q < 32) (g0 : 0 ≤ r) (g1 : r < 8) : bits .or .u8 (q * 8) r = q * 8 + r := by
  have k : ∀ q : Fin 32, ∀ r : Fin 8, bits .or .u8 (((q.val : Nat) : Int) * 8) ((r.val : Nat) : Int) = ((q.val : Nat) : Int) * 8 + ((r.val : Nat) : Int) := by decide +kernel
  have := k ⟨q.toNat, by omega⟩ ⟨r.toNat, by omega⟩
  rw [show ((q.toNat : Nat) : Int) = q by omega, show ((r.toNat : Nat) : Int) = r by omega] at this; exact this
theorem byd4 (z : Int) (h0 : 0 ≤ z) (h1 : z < 256) : bits .xor .u8 z 0 = z ∧ bits .xor .u8 z 128 = (z + 128) % 256 := by
  have k : ∀ q : Fin 256, bits .xor .u8 ((q.val : Nat) : Int) 0 = ((q.val : Nat) : Int) ∧ bits .xor .u8 ((q.val : Nat) : Int) 128 = (((q.val : Nat) : Int) + 128) % 256 := by decide +kernel
  have := k ⟨z.toNat, by omega⟩
  rw [show ((z.toNat : Nat) : Int) = z by omega] at this; exact this
theorem bt_app (a b : ByteArray) (i : Nat) : bt (a ++ b) i = if i < a.size then bt a i else bt b (i - a.size) := by
  unfold bt
  rw [ByteArray.data_append, Array.getElem?_append]
  have e : a.data.size = a.size := rfl
  rw [e]
  split <;> rfl
theorem bt_ext (a : ByteArray) (s e i : Nat) (h : i < e - s) (he : e ≤ a.size) : bt (a.extract s e) i = bt a (s + i) := by
  unfold bt
  have z : a.data.size = a.size := rfl
  rw [ByteArray.data_extract, Array.getElem?_extract, if_pos (by omega)]
theorem ext_size (a : ByteArray) (s e : Nat) (he : e ≤ a.size) : (a.extract s e).size = e - s := by
  rw [ByteArray.size_extract]; omega
theorem app_size (a b : ByteArray) : (a ++ b).size = a.size + b.size := ByteArray.size_append
theorem one_size (x : Int) : (mkS [x]).size = 1 := by rw [mkS_size]; rfl
theorem one_bt (x : Int) (h0 : 0 ≤ x) (h1 : x < 256) : bt (mkS [x]) 0 = x := mkS_bt [x] 0 x rfl h0 h1
theorem fl_parts (s : ByteArray) (hs : s.size = 32) : flN s = bt s 31 * 452312848583266388373324160190187140051835877600158453279131187530910662656 + pn 8 (fun i => bt s (30 - i)) 30 * 256 + bt s 0 := by
  unfold flN
  rw [if_pos hs]
  have a := pn_first 8 (fun i => bt s (31 - i)) 31
  rw [show 31 + 1 = 32 from rfl] at a
  rw [a]
  have b : pn 8 (sh (fun i => bt s (31 - i)) 1) 31 = pn 8 (sh (fun i => bt s (31 - i)) 1) 30 * 2 ^ 8 + bt s 0 := rfl
  rw [b]
  have c : pn 8 (sh (fun i => bt s (31 - i)) 1) 30 = pn 8 (fun i => bt s (30 - i)) 30 := pn_congr 8 _ _ 30 fun i hi => by
    show bt s (31 - (1 + i)) = bt s (30 - i)
    congr 1; omega
  rw [c, show (2 : Int) ^ (8 * 31) = 452312848583266388373324160190187140051835877600158453279131187530910662656 by decide, show (2 : Int) ^ 8 = 256 by decide]
  rw [show (31 - 0 : Nat) = 31 from rfl]
  omega
theorem cl_same {a b c d m : Int} (ha : a / 8 = b / 8) (hc : c % 128 = d % 128) : cl (c * 452312848583266388373324160190187140051835877600158453279131187530910662656 + m * 256 + a) = cl (d * 452312848583266388373324160190187140051835877600158453279131187530910662656 + m * 256 + b) := by
  unfold cl; omega
theorem c5_same {a c d m : Int} (hc : c % 128 = d % 128) : c5 (c * 452312848583266388373324160190187140051835877600158453279131187530910662656 + m * 256 + a) = c5 (d * 452312848583266388373324160190187140051835877600158453279131187530910662656 + m * 256 + a) := by
  unfold c5; omega
theorem xor_low (z l : Int) (h0 : 0 ≤ z) (h1 : z < 256) (g0 : 0 ≤ l) (g1 : l < 256) : 0 ≤ bits .xor .u8 z (bits .and .u8 l 128) ∧ bits .xor .u8 z (bits .and .u8 l 128) < 256 ∧ bits .xor .u8 z (bits .and .u8 l 128) % 128 = z % 128 := by
  rw [byd2 l g0 g1]
  have h : l / 128 = 0 ∨ l / 128 = 1 := by omega
  obtain ⟨x0, x1⟩ := byd4 z h0 h1
  rcases h with h | h <;> rw [h]
  · rw [show (0 : Int) * 128 = 0 by omega, x0]; omega
  · rw [show (1 : Int) * 128 = 128 by omega, x1]; omega
theorem mix_low (z l : Int) (h0 : 0 ≤ z) (h1 : z < 256) (g0 : 0 ≤ l) (g1 : l < 256) : 0 ≤ bits .or .u8 (bits .and .u8 z 248) (bits .and .u8 l 7) ∧ bits .or .u8 (bits .and .u8 z 248) (bits .and .u8 l 7) < 256 ∧ bits .or .u8 (bits .and .u8 z 248) (bits .and .u8 l 7) / 8 = z / 8 := by
  rw [byd0 z h0 h1, byd1 l g0 g1, byd3 (z / 8) (l % 8) (by omega) (by omega) (by omega) (by omega)]
  omega
theorem fl_back (N : Int) (h0 : 0 ≤ N) (h1 : N < top256) : flN (mkS (ltL N)) = N := by rw [flN_little]; exact pn_all N h0 h1
theorem cvt1 (x : Int) (W : World) (g : Nat) (h : W.cell? ⟨g, 0, none⟩ = some (.int .u8 x)) : (convert 43 9 (.slice (some ⟨g, 0, none⟩) 1 1)).run Try.prog W = .ok (.string (mkS [x])) W :=
  convG W g 1 [x] rfl (fun j hj => by
    have e : j = 0 := by omega
    subst e; exact h)
set_option maxHeartbeats 1000000 in
theorem xb_any (k u : ByteArray) (l : Int) (hk : k.size = 32) (hu : u.size = 32) (g0 : 0 ≤ l) (g1 : l < 256) (w : World) :
    Calls Try.prog 7 #[.string k, .string u, .int .u8 l] w fun e w' => e = .returned (.bool true) ∧ Below w.heap.size w w' := by
  have m32 : ∀ s : ByteArray, s.size = 32 → s.size ≤ maxLen := fun s h => by rw [h]; decide
  obtain ⟨x0, x1, x2⟩ := mix_low (bt k 0) l (bt_bd k 0).1 (bt_bd k 0).2 g0 g1
  obtain ⟨y0, y1, y2⟩ := xor_low (bt k 31) l (bt_bd k 31).1 (bt_bd k 31).2 g0 g1
  obtain ⟨z0, z1, z2⟩ := xor_low (bt u 31) l (bt_bd u 31).1 (bt_bd u 31).2 g0 g1
  generalize hx : bits .or .u8 (bits .and .u8 (bt k 0) 248) (bits .and .u8 l 7) = x at *
  generalize hy : bits .xor .u8 (bt k 31) (bits .and .u8 l 128) = y at *
  generalize hz : bits .xor .u8 (bt u 31) (bits .and .u8 l 128) = z at *
  have sk := ext_size k 1 31 (by omega)
  have su := ext_size u 0 31 (by omega)
  have sx := one_size x
  have sy := one_size y
  have sz := one_size z
  have s1 : (mkS [x] ++ k.extract 1 31).size = 31 := by rw [app_size]; omega
  have sj : (mkS [x] ++ k.extract 1 31 ++ mkS [y]).size = 32 := by rw [app_size]; omega
  have sv : (u.extract 0 31 ++ mkS [z]).size = 32 := by rw [app_size]; omega
  have j0 : bt (mkS [x] ++ k.extract 1 31 ++ mkS [y]) 0 = x := by rw [bt_app, if_pos (by omega), bt_app, if_pos (by omega), one_bt x x0 x1]
  have j31 : bt (mkS [x] ++ k.extract 1 31 ++ mkS [y]) 31 = y := by rw [bt_app, if_neg (by omega), s1, one_bt y y0 y1]
  have jm : ∀ i, 1 ≤ i → i < 31 → bt (mkS [x] ++ k.extract 1 31 ++ mkS [y]) i = bt k i := fun i h1 h2 => by
    rw [bt_app, if_pos (by omega), bt_app, if_neg (by omega), sx, bt_ext k 1 31 (i - 1) (by omega) (by omega), show 1 + (i - 1) = i by omega]
  have v31 : bt (u.extract 0 31 ++ mkS [z]) 31 = z := by rw [bt_app, if_neg (by omega), su, one_bt z z0 z1]
  have vm : ∀ i, i < 31 → bt (u.extract 0 31 ++ mkS [z]) i = bt u i := fun i h => by
    rw [bt_app, if_pos (by omega), bt_ext u 0 31 i (by omega) (by omega), Nat.zero_add]
  have ek : cl (flN (mkS [x] ++ k.extract 1 31 ++ mkS [y])) = cl (flN k) := by
    rw [fl_parts _ sj, fl_parts k hk, j0, j31, pn_congr 8 (fun i => bt (mkS [x] ++ k.extract 1 31 ++ mkS [y]) (30 - i)) (fun i => bt k (30 - i)) 30 (fun i hi => jm (30 - i) (by omega) (by omega))]
    exact cl_same x2 y2
  have eu : c5 (flN (u.extract 0 31 ++ mkS [z])) = c5 (flN u) := by
    rw [fl_parts _ sv, fl_parts u hu, v31, vm 0 (by omega), pn_congr 8 (fun i => bt (u.extract 0 31 ++ mkS [z]) (30 - i)) (fun i => bt u (30 - i)) 30 (fun i hi => vm (30 - i) (by omega))]
    exact c5_same z2
  have er : rawS (mkS [x] ++ k.extract 1 31 ++ mkS [y]) (u.extract 0 31 ++ mkS [z]) = rawS k u := by
    unfold rawS; rw [if_pos ⟨sj, sv⟩, if_pos ⟨hk, hu⟩, ek, eu]
  have ik := fun W => idxS k 0 (by omega) W
  have ik31 := fun W => idxS k 31 (by omega) W
  have iu31 := fun W => idxS u 31 (by omega) W
  have qs := c5_lims (flN u)
  have cfl : ∀ W, Calls Try.prog 13 #[.string u] W fun e w' => e = .returned (.tuple #[nv (flN u), .int .i64 0]) ∧ Below W.heap.size W w' := fun W => by
    have := refFromLittle_u u (m32 u hu) W
    rw [lenE_yes (by omega)] at this
    exact this
  have cr1 : ∀ W, Calls Try.prog 42 #[.string k, .string u] W fun e w' => e = .returned (.tuple #[.string (rawS k u), .int .i64 0]) ∧ Below W.heap.size W w' := fun W => by
    have := raw_u k u (m32 k hk) (m32 u hu) W
    rw [rE_n k u hk hu] at this
    exact this
  have cr2 : ∀ W, Calls Try.prog 42 #[.string (mkS [x] ++ k.extract 1 31 ++ mkS [y]), .string (u.extract 0 31 ++ mkS [z])] W fun e w' => e = .returned (.tuple #[.string (rawS k u), .int .i64 0]) ∧ Below W.heap.size W w' := fun W => by
    have := raw_u _ _ (m32 _ sj) (m32 _ sv) W
    rw [rE_n _ _ sj sv, er] at this
    exact this
  refine xb_core k u (rawS k u) (mkS (ltL (c5 (flN u) + pp))) (mkS [x]) (mkS [y]) (mkS [z]) (k.extract 1 31) (u.extract 0 31) (mkS [x] ++ k.extract 1 31) _ _ (c5 (flN u)) (flN u) (cy (c5 (flN u)) pp 4) l (bt k 0) (bt k 31) (bt u 31) _ _ _ x y z hk hu w
    ik ik31 iu31 rfl rfl hx rfl hy hz ?_ ?_ (fun W g h => cvt1 x W g h) (fun W g h => cvt1 y W g h) (fun W g h => cvt1 z W g h)
    (fun W => adds _ _ (by omega) (by omega) W) (fun W => adds _ _ (by omega) (by omega) W) (fun W => adds _ _ (by omega) (by omega) W) cr1 cr2 cfl qs.1.symm qs.2.1.symm qs.2.2.1.symm (by rw [b_and63 _ (lim_nn _ _) (lim_lt _ _), qs.2.2.2]) ?_
  · intro W
    rw [run_slice_string W 9 k .i64 .i64 1 31 Try.underlying9 (by omega) (by omega) (by omega)]
    rfl
  · intro W
    rw [run_slice_string_h (t := 9) (s := u) (w := W) Try.underlying9 .i64 31 (by omega) (by omega)]
    rfl
  · by_cases h0 : lim (c5 (flN u)) 0 < 19
    · by_cases h1 : lim (c5 (flN u)) 1 = 0
      · by_cases h2 : lim (c5 (flN u)) 2 = 0
        · by_cases h3 : lim (c5 (flN u)) 3 = 0
          · refine .inr (.inr (.inr (.inr ⟨h0, h1, h2, h3, fun W => ?_, fun W => refLittle_any _ W, fun W => ?_⟩)))
            · have := refAdd_raw (c5 (flN u)) pp W
              rw [nv_pp] at this
              simp only [nv, h1, h2, h3] at this
              exact this
            · have v4 := V4_lim (c5 (flN u)) (inn_c5 _).1 (inn_c5 _).2
              unfold V4 at v4
              rw [h1, h2, h3] at v4
              have b0 := lim_nn (c5 (flN u)) 0
              have t0 : 0 ≤ c5 (flN u) + pp := by unfold pp; omega
              have t1 : c5 (flN u) + pp < 57896044618658097711785492504343953926634992332820282019728792003956564819968 := by unfold pp; omega
              have := raw_u k (mkS (ltL (c5 (flN u) + pp))) (m32 k hk) (m32 _ (lit32 _)) W
              rw [rE_n _ _ hk (lit32 _)] at this
              have e : rawS k (mkS (ltL (c5 (flN u) + pp))) = rawS k u := by
                unfold rawS
                rw [if_pos ⟨hk, lit32 _⟩, if_pos ⟨hk, hu⟩, fl_back _ t0 (by unfold top256; omega)]
                have e5 : c5 (c5 (flN u) + pp) = c5 (flN u) + pp := by
                  show (c5 (flN u) + pp) % 57896044618658097711785492504343953926634992332820282019728792003956564819968 = _
                  exact Int.emod_eq_of_lt t0 t1
                rw [e5, Int.add_emod_right]
              rw [e] at this
              exact this
          · exact .inr (.inr (.inr (.inl ⟨h0, h1, h2, h3⟩)))
        · exact .inr (.inr (.inl ⟨h0, h1, h2⟩))
      · exact .inr (.inl ⟨h0, h1⟩)
    · exact .inl h0
theorem wf8 {n : Int} (h : (Lit.int .u8 n).wf = true) : 0 ≤ n ∧ n < 256 := by
  have a : IntKind.u8.min = 0 := by decide
  have b : IntKind.u8.max = 255 := by decide
  simp [Lit.wf, a, b] at h
  omega
set_option maxHeartbeats 2000000 in
theorem xb_oth (k u : ByteArray) (l : Int) (hk : k.size ≤ maxLen) (hu : u.size ≤ maxLen) (h : ¬ (k.size = 32 ∧ u.size = 32)) (w : World) :
    Calls Try.prog 7 #[.string k, .string u, .int .u8 l] w fun e w' => e = .returned (.bool true) ∧ Below w.heap.size w w' := by
  unfold maxLen at hk hu
  by_cases h1 : k.size = 32
  · have h2 : ¬ (u.size : Int) = 32 := by omega
    have h1' : (k.size : Int) = 32 := by omega
    have h2' : ((u.size : Int) != 32) = true := by simpa using h2
    go_enter Try.func7, Try.ntmps7
    go_wp2_with fail
    refine (awake3 _).mono ?_
    rintro e w1 ⟨rfl, hb⟩
    go_wp2_with fail
    go_returns
    exact ⟨rfl, hb⟩
  · have h1' : ¬ (k.size : Int) = 32 := by omega
    have h2' : ((k.size : Int) != 32) = true := by simpa using h1'
    go_enter Try.func7, Try.ntmps7
    go_wp2_with fail
    refine (awake3 _).mono ?_
    rintro e w1 ⟨rfl, hb⟩
    go_wp2_with fail
    go_returns
    exact ⟨rfl, hb⟩
theorem xb_all (k u : ByteArray) (l : Int) (hk : k.size ≤ maxLen) (hu : u.size ≤ maxLen) (g0 : 0 ≤ l) (g1 : l < 256) (w : World) :
    Calls Try.prog 7 #[.string k, .string u, .int .u8 l] w fun e w' => e = .returned (.bool true) ∧ Below w.heap.size w w' := by
  by_cases h : k.size = 32 ∧ u.size = 32
  · exact xb_any k u l h.1 h.2 g0 g1 w
  · exact xb_oth k u l hk hu h w
set_option maxRecDepth 100000 in
theorem lifted7 (os : Os) (started : os.Started) (H : Type) (enc : TypeId × Value → H) :
    ReturnsInHanded {} Try.checked os 7 .any (Rows.xdhBitsSpec.pre6 enc Try.prog Try.f7 Rows.xdhBitsRow.domain false) (Rows.xdhBitsSpec.post enc Try.prog Try.f7 false true false false) := by
  refine returnsInHanded_of_change (C := Try.checked) own started (by kernel_rfl) Try.func7
    (ChangeSpec.witness6 (enc := enc) (C := Try.checked) false ⟨#[], #[.string ⟨#[]⟩, .string ⟨#[]⟩, .int .u8 0], []⟩ 8 (by kernel_rfl) (by kernel_rfl) (by kernel_rfl) (by kernel_rfl)) ?_
  intro W base args ds gs before hval0 hW hcnd _
  have hval : ∀ (j : Nat) t v, Try.f7.params[j]? = some t → args[j]? = some v → Value.okWide Try.prog W .any base t v := hval0
  have hW' := hW
  obtain ⟨p, q, hA0, hV, rfl, hfz, hnd⟩ := hW
  have hA : DataW.TrodAll enc Try.prog W 0 (fun _ => true) true Try.f7.params.toList args.toList ds p := hA0
  rw [Try.params7] at hA hval
  obtain ⟨v0, vs0, d0, ds0, p0, q0, hargs, rfl, rfl, h0, r0⟩ := trodAll_cons hA
  obtain ⟨v1, vs1, d1, ds1, p1, q1, rfl, rfl, rfl, h1, r1⟩ := trodAll_cons r0
  obtain ⟨v2, vs2, d2, ds2, p2, q2, rfl, rfl, rfl, h2, r2⟩ := trodAll_cons r1
  obtain ⟨rfl, rfl, rfl⟩ := trodAll_nil r2
  obtain rfl : args = #[v0, v1, v2] := by cases args; simp_all
  obtain ⟨rfl, rfl⟩ := trodVars_none hV
  have k0 := h0
  have k1 := h1
  have k2 := h2
  have lt0 : ∀ x ∈ p0, x.block < W.heap.size := by obtain ⟨m, hm⟩ := k0; exact DataW.trod_lt m _ _ _ hm
  have lt1 : ∀ x ∈ p1, x.block < W.heap.size := by obtain ⟨m, hm⟩ := k1; exact DataW.trod_lt m _ _ _ hm
  have lt2 : ∀ x ∈ p2, x.block < W.heap.size := by obtain ⟨m, hm⟩ := k2; exact DataW.trod_lt m _ _ _ hm
  obtain ⟨S0, rfl, rfl, rfl, hs0⟩ := open_string Try.underlying9 (hval 0 9 v0 rfl rfl) h0
  obtain ⟨S1, rfl, rfl, rfl, hs1⟩ := open_string Try.underlying9 (hval 1 9 v1 rfl rfl) h1
  obtain ⟨N2, rfl, rfl, rfl, w2⟩ := open_int Try.underlying5 (hval 2 5 v2 rfl rfl) h2
  have n2 := wf8 w2
  clear hA0 hval0
  refine (xb_all S0 S1 N2 hs0 hs1 n2.1 n2.2 W).mono fun e W' ⟨he, bel⟩ => ?_
  subst he
  exact ⟨_, rfl, _, _, _, [], _, [], hW', trodAll_mk1 (shut_bool Try.underlying4 _), (trodAll_cons_mk (Below.trod laidOut (by kernel_rfl) (of_decide_eq_true (by kernel_rfl)) k0 bel lt0) (trodAll_cons_mk (Below.trod laidOut (by kernel_rfl) (of_decide_eq_true (by kernel_rfl)) k1 bel lt1) (trodAll_cons_mk (Below.trod laidOut (by kernel_rfl) (of_decide_eq_true (by kernel_rfl)) k2 bel lt2) trodAll_mk0))), rfl, bel.frame _, fun h => by cases h⟩
theorem xdhBits_holds : Rows.XdhBitsSaid :=
  OpenClaim.holds_of_wide 7 Try.f7 rfl rfl rfl rfl rfl rfl rfl ⟨rfl, rfl, rfl, rfl, rfl⟩ rfl rfl rfl rfl rfl (by kernel_rfl) Try.func7 (by kernel_rfl)
    (of_decide_eq_true (by kernel_rfl)) (by unfold Func.isWrapper; rw [if_neg (of_decide_eq_false (by kernel_rfl))]; exact ⟨rfl, rfl⟩)
    (fun os started H enc _ => lifted7 os started H enc)
#print axioms xdhBits_holds
end Go.Proofs.Ytpigofooblmdhaa
