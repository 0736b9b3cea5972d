/- What num.Big answers; texts made of bytes. -/
import Derived.Test.YtpigofooblmdhaaN18
import Derived.Test.YtpigofooblmdhaaT3
import Derived.Deep.WholeRow
set_option linter.all false
set_option maxRecDepth 100000
namespace Go.Proofs.Ytpigofooblmdhaa
open Go.RowKit
/-- The text of these bytes. -/
def mkS (ns : List Int) : ByteArray := ns.foldl (fun r n => r.push (UInt8.ofNat n.toNat)) ByteArray.empty
theorem mkS_data (ns : List Int) : ∀ r : ByteArray, (ns.foldl (fun r n => r.push (UInt8.ofNat n.toNat)) r).data.toList = r.data.toList ++ ns.map (fun n => UInt8.ofNat n.toNat) := by
  induction ns with
  | nil => intro r; simp
  | cons n ns ih =>
    intro r
    rw [List.foldl_cons, ih]
    show (r.data.push _).toList ++ _ = _
    simp
theorem mkS_list (ns : List Int) : (mkS ns).data.toList = ns.map (fun n => UInt8.ofNat n.toNat) := by
  unfold mkS; rw [mkS_data]; rfl
theorem mkS_size (ns : List Int) : (mkS ns).size = ns.length := by
  have h := congrArg List.length (mkS_list ns)
  rw [Array.length_toList, List.length_map] at h
  exact h
theorem mkS_bt (ns : List Int) (i : Nat) (n : Int) (hi : ns[i]? = some n) (h0 : 0 ≤ n) (h1 : n < 256) : bt (mkS ns) i = n := by
  unfold bt
  have e : (mkS ns).data[i]? = (ns.map (fun n => UInt8.ofNat n.toNat))[i]? := by rw [← mkS_list, Array.getElem?_toList]
  rw [e, List.getElem?_map, hi]
  show ((UInt8.ofNat n.toNat).toNat : Int) = n
  rw [UInt8.toNat_ofNat']
  omega
theorem conv32 (W : World) (g : Nat) (ns : List Int) (h32 : ns.length = 32) (hc : ∀ j, j < 32 → W.cell? ⟨g, j, none⟩ = some (.int .u8 (ns.getD j 0))) :
    (convert 43 9 (.slice (some ⟨g, 0, none⟩) 32 32)).run Try.prog W = .ok (.string (mkS ns)) W := by
  rw [run_convert_bytes_string W 43 9 5 _ 32 32 Try.underlying43 Try.underlying5 Try.underlying9]
  refine run_bytesToString W ⟨g, 0, none⟩ 32 32 ns ?_
  have := run_loadCells_list (P := Try.prog) W ⟨g, 0, none⟩ (ns.map (Value.int .u8)) (by
    intro j v hv
    rw [Addr.add_mid, Nat.zero_add]
    rw [List.getElem?_map] at hv
    obtain ⟨n, hn, rfl⟩ := Option.map_eq_some_iff.1 hv
    have hj : j < 32 := by rw [← h32]; exact (List.getElem?_eq_some_iff.1 hn).1
    rw [hc j hj, List.getD, hn]; rfl)
  rw [List.length_map, h32] at this
  exact this
theorem store32 (L : List Value) (hlen : L.length = 32) (hone : ∀ v ∈ L, v.oneCell' = true) (W : World) :
    (storeCells ⟨W.heap.size, 0, none⟩ L).run Try.prog (W.alloc (.cells #[.int .u8 0, .int .u8 0, .int .u8 0, .int .u8 0, .int .u8 0, .int .u8 0, .int .u8 0, .int .u8 0, .int .u8 0, .int .u8 0, .int .u8 0, .int .u8 0, .int .u8 0, .int .u8 0, .int .u8 0, .int .u8 0, .int .u8 0, .int .u8 0, .int .u8 0, .int .u8 0, .int .u8 0, .int .u8 0, .int .u8 0, .int .u8 0, .int .u8 0, .int .u8 0, .int .u8 0, .int .u8 0, .int .u8 0, .int .u8 0, .int .u8 0, .int .u8 0] 57)) = .ok () (W.alloc (.cells L.toArray 57)) := by
  have := run_storeCells_new (P := Try.prog) W 57 #[.int .u8 0, .int .u8 0, .int .u8 0, .int .u8 0, .int .u8 0, .int .u8 0, .int .u8 0, .int .u8 0, .int .u8 0, .int .u8 0, .int .u8 0, .int .u8 0, .int .u8 0, .int .u8 0, .int .u8 0, .int .u8 0, .int .u8 0, .int .u8 0, .int .u8 0, .int .u8 0, .int .u8 0, .int .u8 0, .int .u8 0, .int .u8 0, .int .u8 0, .int .u8 0, .int .u8 0, .int .u8 0, .int .u8 0, .int .u8 0, .int .u8 0, .int .u8 0] L.toArray (by rw [List.size_toArray, hlen]; exact Try.info57) (by show 32 = L.toArray.size; rw [List.size_toArray, hlen]) (all_oneCell_toArray hone)
  rw [List.toList_toArray] at this
  exact this
set_option maxHeartbeats 1000000 in
theorem big_core (N : Int) (L : List Value) (S : ByteArray) (hlen : L.length = 32) (ST : ∀ W : World, (storeCells ⟨W.heap.size, 0, none⟩ L).run Try.prog (W.alloc (.cells #[.int .u8 0, .int .u8 0, .int .u8 0, .int .u8 0, .int .u8 0, .int .u8 0, .int .u8 0, .int .u8 0, .int .u8 0, .int .u8 0, .int .u8 0, .int .u8 0, .int .u8 0, .int .u8 0, .int .u8 0, .int .u8 0, .int .u8 0, .int .u8 0, .int .u8 0, .int .u8 0, .int .u8 0, .int .u8 0, .int .u8 0, .int .u8 0, .int .u8 0, .int .u8 0, .int .u8 0, .int .u8 0, .int .u8 0, .int .u8 0, .int .u8 0, .int .u8 0] 57)) = .ok () (W.alloc (.cells L.toArray 57)))
    (CV : ∀ W : World, (convert 43 9 (.slice (some ⟨W.heap.size, 0, none⟩) 32 32)).run Try.prog (W.alloc (.cells L.toArray 57)) = .ok (.string S) (W.alloc (.cells L.toArray 57)))
    (BB : ∀ W, Calls Try.prog 55 #[nv N] W fun e w' => e = .returned (.agg L.toArray) ∧ Below W.heap.size W w') (w : World) :
    Calls Try.prog 16 #[nv N] w fun e w' => e = .returned (.string S) ∧ Below w.heap.size w w' := by
  go_enter Try.func16, Try.ntmps16
  go_wp2_with fail
  refine (BB _).mono ?_
  rintro e w1 ⟨rfl, hb1⟩
  have hB1 : Below w.heap.size w w1 := Below.trans (by go_grown) (hb1.mono (by go_size))
  clear hb1 BB
  go_wp2_with fail
  go_ret
  exact ⟨rfl, hB1.alloc hB1.size _⟩
/-- A number's bytes, the highest first. -/
def bgL (N : Int) : List Int := (List.range 32).map (byt N)
theorem bgL_at (N : Int) (j : Nat) (hj : j < 32) : (bgL N)[j]? = some (byt N j) := by simp [bgL, hj]
theorem big_any (N : Int) (hN : 0 ≤ N) (hN' : N < top256) (w : World) :
    Calls Try.prog 16 #[nv N] w fun e w' => e = .returned (.string (mkS (bgL N))) ∧ Below w.heap.size w w' := by
  have hat := bytsL_at N
  refine big_core N (bytsL N) (mkS (bgL N)) (bytsL_len N) (fun W => store32 _ (bytsL_len N) (bytsL_one N) W) (fun W => ?_) (fun W => bigBytes_any N hN hN' W) w
  refine conv32 _ _ _ (by simp [bgL]) ?_
  intro j hj
  have := (Arr.new W (bytsL N).toArray 57 W.heap.size rfl (fun j => .int .u8 (byt N j)) 32 (by intro i hi; rw [List.getElem?_toArray]; exact hat i hi)).c j hj
  rw [this, List.getD, bgL_at N j hj]; rfl
end Go.Proofs.Ytpigofooblmdhaa
