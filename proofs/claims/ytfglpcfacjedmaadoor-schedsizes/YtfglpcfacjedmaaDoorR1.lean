/- What the reference's constants, beginning, New, Fit and Block answer. -/
import Derived.Test.YtfglpcfacjedmaaDoorC8
set_option linter.all false
set_option maxRecDepth 100000
namespace Go.Proofs.YtfglpcfacjedmaaDoor
open Go.RowKit Go.Sort
set_option maxHeartbeats 2000000 in
theorem rconst_any (w : World) : Calls Tryd.prog 78 #[] w fun e w' => e = .returned (.slice (some ⟨w.heap.size, 0, none⟩) 64 64) ∧ w' = w.alloc (.cells kkL.toArray 67) := by
  have e : kkL.toArray = #[.int .u32 1116352408, .int .u32 1899447441, .int .u32 3049323471, .int .u32 3921009573, .int .u32 961987163, .int .u32 1508970993, .int .u32 2453635748, .int .u32 2870763221, .int .u32 3624381080, .int .u32 310598401, .int .u32 607225278, .int .u32 1426881987, .int .u32 1925078388, .int .u32 2162078206, .int .u32 2614888103, .int .u32 3248222580, .int .u32 3835390401, .int .u32 4022224774, .int .u32 264347078, .int .u32 604807628, .int .u32 770255983, .int .u32 1249150122, .int .u32 1555081692, .int .u32 1996064986, .int .u32 2554220882, .int .u32 2821834349, .int .u32 2952996808, .int .u32 3210313671, .int .u32 3336571891, .int .u32 3584528711, .int .u32 113926993, .int .u32 338241895, .int .u32 666307205, .int .u32 773529912, .int .u32 1294757372, .int .u32 1396182291, .int .u32 1695183700, .int .u32 1986661051, .int .u32 2177026350, .int .u32 2456956037, .int .u32 2730485921, .int .u32 2820302411, .int .u32 3259730800, .int .u32 3345764771, .int .u32 3516065817, .int .u32 3600352804, .int .u32 4094571909, .int .u32 275423344, .int .u32 430227734, .int .u32 506948616, .int .u32 659060556, .int .u32 883997877, .int .u32 958139571, .int .u32 1322822218, .int .u32 1537002063, .int .u32 1747873779, .int .u32 1955562222, .int .u32 2024104815, .int .u32 2227730452, .int .u32 2361852424, .int .u32 2428436474, .int .u32 2756734187, .int .u32 3204031479, .int .u32 3329325298] := rfl
  rw [e]
  clear e
  go_enter Tryd.func78, Tryd.ntmps78
  go_wp2
  go_ret
  exact ⟨rfl, rfl⟩
set_option maxHeartbeats 2000000 in
theorem rbeg_any (w : World) : Calls Tryd.prog 67 #[] w fun e w' => e = .returned (w8 bgn) ∧ Below w.heap.size w w' := by
  have e : w8 bgn = .agg #[.int .u32 1779033703, .int .u32 3144134277, .int .u32 1013904242, .int .u32 2773480762, .int .u32 1359893119, .int .u32 2600822924, .int .u32 528734635, .int .u32 1541459225] := rfl
  rw [e]
  clear e
  go_enter Tryd.func67, Tryd.ntmps67
  go_wp2
  refine bodyPost_ret (v := .agg #[.int .u32 1779033703, .int .u32 3144134277, .int .u32 1013904242, .int .u32 2773480762, .int .u32 1359893119, .int .u32 2600822924, .int .u32 528734635, .int .u32 1541459225]) (by simp [results, Tryd.results67, go_sem]) rfl ⟨rfl, ?_⟩
  go_grown
set_option maxHeartbeats 2000000 in
theorem rnew_core (g : Nat → Int) (w : World) (C30 : ∀ W, Calls Tryd.prog 67 #[] W fun e w' => e = .returned (w8 g) ∧ Below W.heap.size W w') :
    Calls Tryd.prog 50 #[] w fun e w' => e = .returned (hv g ⟨#[]⟩ 0) ∧ Below w.heap.size w w' := by
  unfold hv w8 at *
  go_enter Tryd.func50, Tryd.ntmps50
  go_wp2_with fail
  have A := Arr.new w #[.int .u32 0, .int .u32 0, .int .u32 0, .int .u32 0, .int .u32 0, .int .u32 0, .int .u32 0, .int .u32 0, .string ⟨#[]⟩, .int .u64 0] 70 _ rfl (hx (fun _ => 0) ⟨#[]⟩ 0) 10 (hx_at (fun _ => 0) ⟨#[]⟩ 0)
  refine (C30 _).mono ?_
  rintro e w1 ⟨rfl, hb⟩
  obtain ⟨k0, k8, k9⟩ := (A.to' hb).ten
  have z := (A.to' hb).z
  have hB : Below w.heap.size w w1 := Bel.call (by go_grown) hb
  clear hb A C30
  go_wp2_with fail
  refine bodyPost_ret (v := .agg #[.int .u32 (g 0), .int .u32 (g 1), .int .u32 (g 2), .int .u32 (g 3), .int .u32 (g 4), .int .u32 (g 5), .int .u32 (g 6), .int .u32 (g 7), .string ⟨#[]⟩, .int .u64 0]) (by simp [results, Tryd.results50, go_sem, k0, k8, k9]) rfl ⟨rfl, ?_⟩
  go_grown
theorem rnew_any (w : World) : Calls Tryd.prog 50 #[] w fun e w' => e = .returned (hv bgn ⟨#[]⟩ 0) ∧ Below w.heap.size w w' := rnew_core bgn w (fun W => rbeg_any W)
end Go.Proofs.YtfglpcfacjedmaaDoor
