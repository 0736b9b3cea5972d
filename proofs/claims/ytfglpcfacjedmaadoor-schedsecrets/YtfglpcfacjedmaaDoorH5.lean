/- hkdf.first: the first bytes of what is handed out. -/
import Derived.Test.YtfglpcfacjedmaaDoorH4
import Derived.Test.YtfglpcfacjedmaaDoorM1
import Derived.Lib.AppendStr
import Derived.RangeFuncBox
set_option linter.all false
set_option maxRecDepth 100000
namespace Go.Proofs.YtfglpcfacjedmaaDoor
open Go.RowKit Go.Shelf Go.Sort Go.Lib
attribute [local go_sem] Oper.semAt_some
theorem wpListIn_append_own_string {F : Fence} {n' : Nat} {P : Program} (w : World) {ops : Array Oper} {rest : List Oper} {o : Oper} {a : Act} {Q : Exit → Act → World → Prop} (hgd : o.guard = none) (sl x : Operand) (t u : TypeId)
    (ho : o.op = .call { callee := .builtin .append, args := #[sl, x], argTypes := #[t, u] })
    (base : Nat) (e : TypeId) (i : TypeInfo) (ht : P.underlying t = some (.slice e)) (hu : P.underlying u = some .string) (hi : P.info? e = some i) (hz : i.zero = some (.int .u8 0))
    (hsize : i.size = 1) (hby : i.bytes = 1)
    (v : Value) (n : Nat) (xs : List Value) (hs : a.eval sl = v) (hown : w.ownsRow base e 1 v n xs) (s : ByteArray) (hx : a.eval x = .string s)
    (h63 : n + s.size ≤ maxLen) (hbytes : n + s.size ≤ 140737488355328) (hbase : base ≤ w.heap.size)
    (h : ∀ v' w', w'.ownsRow base e 1 v' (n + s.size) (xs ++ strCells s) → w.grownBy w' v.ownBlock → wpListIn F n' P ops Q rest (a.put o.dst v') w') : wpListIn F n' P ops Q (o :: rest) a w := by
  refine wpListIn_plain hgd fun K hK => ?_
  obtain ⟨v', w', hr, h2, h3, h4⟩ := run_append_own_string (P := P) w base t u o.type e i ht hu hi hz hsize hby v n xs hown s h63 hbytes hbase
  unfold Oper.wpIn
  refine ⟨?_, ?_⟩
  · simp [Oper.about, ho, resolve, Target.leads, Sem.run_pure]
  · rw [Oper.semAt_plain F _ _ (by rw [ho]; intro c hc'; cases hc')]
    simp [execOp, ho, resolve, invoke, builtin, hs, hx, hr, Result.andThen]
    exact hK _ _ (h v' w' h2 h3)
theorem boxed_app {W w1 : World} {n₀ B : Nat} {t e : TypeId} {size : Nat} {v v' : Value} {k m : Nat} {xs ys : List Value}
    (hv : Boxed W B t v) (hte : t ≠ e) (hrow : W.ownsRow n₀ e size v k xs) (hn₀ : n₀ ≤ W.heap.size) (hB : n₀ ≤ B)
    (hown' : w1.ownsRow n₀ e size v' m ys) (hgrow : W.grownBy w1 v.ownBlock) :
    Boxed w1 B t v ∧ Boxed (w1.setCell ⟨B, 0, none⟩ v') B t v' ∧ (w1.setCell ⟨B, 0, none⟩ v').ownsRow n₀ e size v' m ys ∧ KeepsOthers W (w1.setCell ⟨B, 0, none⟩ v') ∧ Below n₀ W (w1.setCell ⟨B, 0, none⟩ v') := by
  have hv1 : Boxed w1 B t v := hv.kept hgrow (hv.not_row hte hrow)
  refine ⟨hv1, hv1.set v', hown'.kept (grownBy_setCell' w1 B v') (.inr (hv1.not_row hte hown').symm), ?_, ?_⟩
  · refine (KeepsOthers.of_grownBy hgrow fun j o ej hj => ?_).trans (KeepsOthers.setCell _ _ _)
    rcases hrow.2 with ⟨rfl, _⟩ | ⟨g, cap, cur, rfl, _, hgb, _⟩
    · simp [Value.ownBlock] at ej
    · obtain rfl : g = j := by simpa [Value.ownBlock] using ej
      rw [hgb] at hj; cases hj; rfl
  · refine ((Below.refl n₀ W).grown hgrow hn₀ fun j ej => ?_).setCell (p := ⟨B, 0, none⟩) hB v'
    rcases hrow.2 with ⟨rfl, _⟩ | ⟨g, cap, cur, rfl, hb, _, _⟩
    · simp [Value.ownBlock] at ej
    · obtain rfl : g = j := by simpa [Value.ownBlock] using ej
      exact hb
theorem strCells_app (a b : ByteArray) : strCells (a ++ b) = strCells a ++ strCells b := by simp [strCells]
theorem mkS_strCells (s : ByteArray) : mkS (s.data.toList.map (fun b : UInt8 => (b.toNat : Int))) = s := by
  apply ba_ext
  rw [mkS_list, List.map_map]
  have : ∀ l : List UInt8, l.map ((fun n : Int => UInt8.ofNat n.toNat) ∘ fun b : UInt8 => (b.toNat : Int)) = l := by
    intro l
    induction l with
    | nil => rfl
    | cons x l ih => rw [List.map_cons, ih]; simp
  exact this _
/-- A row of bytes as a text. -/
theorem convR (W : World) (b k : Nat) (v : Value) (s : ByteArray) (h : W.ownsRow b 5 1 v k (strCells s)) (hk : s.size = k) : (convert 65 9 v).run Tryd.prog W = .ok (.string s) W := by
  rcases h.2 with ⟨rfl, h0⟩ | ⟨g, c, cur, rfl, _⟩
  · have e : s = mkS [] := by
      rw [← mkS_strCells s]
      have : s.data.toList = [] := List.eq_nil_of_length_eq_zero (by rw [len_list]; omega)
      rw [this]; rfl
    rw [e, run_convert_bytes_string W 65 9 5 _ 0 0 Tryd.underlying65 Tryd.underlying5 Tryd.underlying9]
    rfl
  · have e : strCells s = (s.data.toList.map (fun b : UInt8 => (b.toNat : Int))).map (Value.int .u8) := by
      unfold strCells; rw [List.map_map]; rfl
    have := convC W g k c (s.data.toList.map (fun b : UInt8 => (b.toNat : Int))) (by rw [List.length_map, len_list, hk]) (by rw [← e]; exact World.ownsRow.cells h rfl)
    rwa [mkS_strCells] at this
/-- Blocks, one behind the other. -/
def ctB (l : List ByteArray) : ByteArray := l.foldl (· ++ ·) ⟨#[]⟩
theorem ctB_snoc (l : List ByteArray) (x : ByteArray) : ctB (l ++ [x]) = ctB l ++ x := by unfold ctB; rw [List.foldl_append]; rfl
theorem ctB_acc (l : List ByteArray) : ∀ a : ByteArray, l.foldl (· ++ ·) a = a ++ ctB l := by
  induction l with
  | nil =>
    intro a
    apply ba_ext
    show _ = (a ++ ⟨#[]⟩ : ByteArray).data.toList
    rw [ap_list]
    show _ = _ ++ []
    rw [List.append_nil]
    rfl
  | cons x l ih => intro a; unfold ctB; rw [List.foldl_cons, List.foldl_cons, ih, ih (_ ++ x), ap_nil, ap_assoc]
theorem ctB_app (l m : List ByteArray) : ctB (l ++ m) = ctB l ++ ctB m := by
  show List.foldl _ _ _ = _
  rw [List.foldl_append, ctB_acc m]
  rfl
theorem ctB_size (l : List Blk32) : (ctB (l.map (·.1))).size = 32 * l.length := by
  induction l with
  | nil => rfl
  | cons x l ih =>
    show (ctB ([x.1] ++ l.map (·.1))).size = _
    rw [ctB_app, ByteArray.size_append, ih, show ctB [x.1] = x.1 from ap_nil _, x.2, List.length_cons]
    omega
theorem ext_app_lo (a b : ByteArray) (n : Nat) (h : n ≤ a.size) : (a ++ b).extract 0 n = a.extract 0 n := by
  apply ba_ext
  rw [ext_list, ext_list, ap_list, List.drop_zero, List.drop_zero, List.take_append_of_le_length (by rw [len_list]; omega)]
theorem ext_app_hi (a b : ByteArray) (n : Nat) (h : a.size ≤ n) : (a ++ b).extract 0 n = a ++ b.extract 0 (n - a.size) := by
  apply ba_ext
  rw [ext_list, ap_list, ap_list, ext_list, List.drop_zero, List.drop_zero, Nat.sub_zero, Nat.sub_zero, List.take_append, len_list, List.take_of_length_le (by rw [len_list]; omega)]
theorem ctB_pre {l m : List ByteArray} (h : l <+: m) (n : Nat) (hn : n ≤ (ctB l).size) : (ctB m).extract 0 n = (ctB l).extract 0 n := by
  obtain ⟨t, rfl⟩ := h
  rw [ctB_app, ext_app_lo _ _ _ hn]
end Go.Proofs.YtfglpcfacjedmaaDoor
