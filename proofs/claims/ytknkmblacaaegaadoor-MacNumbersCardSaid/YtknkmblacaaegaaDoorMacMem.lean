/- Arrays of bytes in memory: a key's block, a tag. -/
import Derived.Test.YtknkmblacaaegaaDoorShaKit
import Derived.Test.YtknkmblacaaegaaDoorMacMath
import Derived.Test.YtknkmblacaaegaaDoorCat
import Derived.ChangeKeysEq
import Derived.Laws.StructEq
namespace Go.Proofs.YtknkmblacaaegaaDoor
open Go.RowKit
set_option linter.unusedVariables false
set_option linter.unusedSimpArgs false
set_option maxRecDepth 100000

/-- The types that are arrays of bytes: how many they hold. -/
def Arb (ty n : Nat) : Prop := (ty = 38 ∧ n = 64) ∨ (ty = 35 ∧ n = 32)
theorem Arb.facts {ty n : Nat} (h : Arb ty n) : Tryd.prog.underlying ty = some (.array n 5) ∧ (Tryd.prog.info? ty).map (·.size) = some n := by
  rcases h with ⟨rfl, rfl⟩ | ⟨rfl, rfl⟩
  · exact ⟨Tryd.underlying38, by kernel_rfl⟩
  · exact ⟨Tryd.underlying35, by kernel_rfl⟩
theorem arbB : Arb 38 64 := Or.inl ⟨rfl, rfl⟩
theorem arbT : Arb 35 32 := Or.inr ⟨rfl, rfl⟩
theorem Arb.tag {ty n : Nat} (h : Arb ty n) : byteTag ty := Or.inr ⟨n, h.facts.1⟩
/-- Block g is an array of that type, and holds the bytes l. -/
def Ay (ty : TypeId) (w : World) (g : Nat) (l : List Int) : Prop := w.heap[g]? = some (.cells (bv l).toArray ty (0, 0))
theorem Ay.cel {ty : TypeId} {w : World} {g : Nat} {l : List Int} (h : Ay ty w g l) : Cel w g (bv l) := ⟨ty, h⟩
theorem Ay.lt {ty : TypeId} {w : World} {g : Nat} {l : List Int} (h : Ay ty w g l) : g < w.heap.size := h.cel.lt
theorem Ay.past {ty : TypeId} {w w' : World} {g : Nat} {l : List Int} (h : Ay ty w g l) (hb : Below w.heap.size w w') : Ay ty w' g l := (hb.block g h.lt).trans h
theorem Ay.grown {ty : TypeId} {w w' : World} {g : Nat} {l : List Int} {row : Option Nat} (h : Ay ty w g l) (hg : w.grownBy w' row) (hr : row ≠ some g) : Ay ty w' g l := (hg.block g h.lt (fun e => hr e.symm)).trans h
theorem Ay.alloc {ty : TypeId} {w : World} {g : Nat} {l : List Int} (h : Ay ty w g l) (o : Obj) : Ay ty (w.alloc o) g l := h.past (alloc_below w o)
theorem Ay.made (ty : TypeId) (w : World) (l : List Int) : Ay ty (w.alloc (.cells (bv l).toArray ty)) w.heap.size l := heap_alloc_new w _
theorem Ay.cell {ty : TypeId} {w : World} {g : Nat} {l : List Int} (h : Ay ty w g l) {j : Nat} (hj : j < l.length) : w.cell? ⟨g, j, none⟩ = some (.int .u8 (nth l j)) := h.cel.cell (bv_get hj)
theorem Ay.set {ty : TypeId} {w : World} {g : Nat} {l : List Int} (h : Ay ty w g l) (i : Nat) (x : Int) : Ay ty (w.setCell ⟨g, i, none⟩ (.int .u8 x)) g (l.set i x) := by
  unfold Ay at h ⊢
  rw [setCell_eq_setRow w g i _ ty _ _ h, setRow_heap w g _ _ ty _ h]
  simp [bv, List.map_set]
theorem Ay.bs {ty : TypeId} {w : World} {g : Nat} {l : List Int} (h : Ay ty w g l) (hl : l.length ≤ maxLen) : Bs w (.slice (some ⟨g, 0, none⟩) l.length l.length) l :=
  Bs.mk (Nat.le_refl _) hl fun j hj => by rw [Nat.zero_add]; exact h.cell hj
theorem Ay.owy {ty n : Nat} (hA : Arb ty n) {w : World} {g base : Nat} {l : List Int} (h : Ay ty w g l) (hl : l.length = n) (hb : base ≤ g) : Owy w base (.slice (some ⟨g, 0, none⟩) n n) l := by
  have hn : n ≤ maxLen := by unfold maxLen; rcases hA with ⟨_, rfl⟩ | ⟨_, rfl⟩ <;> omega
  subst hl
  refine ⟨ty, hA.tag, ⟨by simp [bv], Or.inr ⟨g, _, _, rfl, hb, h, Nat.le_refl _, hn, by simp [bv], ?_⟩⟩, Or.inr fun a m c e => by cases e; rfl⟩
  simp only [Nat.mul_one]
  exact List.take_of_length_le (by simp [bv])
theorem wpList_load_ay {ops : Array Oper} {rest : List Oper} {o : Oper} {a : Act} {w : World} {Q : Exit → Act → World → Prop} (hgd : o.guard = none) (ty n : Nat) (hA : Arb ty n) (x : Operand) (ho : o.op = .load ty x)
    (g : Nat) (hx : a.eval x = .pointer (some ⟨g, 0, none⟩)) (l : List Int) (hC : Ay ty w g l) (hn : l.length = n)
    (h : wpList Tryd.prog ops Q rest (a.put o.dst (.agg (bv l).toArray)) w) : wpList Tryd.prog ops Q (o :: rest) a w := by
  obtain ⟨hu, hi⟩ := hA.facts
  exact wpList_load_row hgd ty x ho g hx ty _ _ _ hC hu rfl (by rw [hi]; simp [hn, bv]) h
/-- .. of bytes that lie anywhere. -/
theorem wpList_load_bs {ops : Array Oper} {rest : List Oper} {o : Oper} {a : Act} {w : World} {Q : Exit → Act → World → Prop} (hgd : o.guard = none) (ty n : Nat) (hA : Arb ty n) (x : Operand) (ho : o.op = .load ty x)
    (b off : Nat) (hx : a.eval x = .pointer (some ⟨b, off, none⟩)) (l : List Int) (hC : ∀ j, j < l.length → w.cell? ⟨b, off + j, none⟩ = some (.int .u8 (nth l j))) (hn : l.length = n)
    (h : wpList Tryd.prog ops Q rest (a.put o.dst (.agg (bv l).toArray)) w) : wpList Tryd.prog ops Q (o :: rest) a w := by
  obtain ⟨hu, hi⟩ := hA.facts
  refine wpList_load_mid hgd ty x ho b off hx (bv l) _ (fun j v hv => ?_) hu rfl (by rw [hi, length_bv, hn]) h
  have hj : j < l.length := by
    have := (List.getElem?_eq_some_iff.1 hv).1
    simpa [bv] using this
  rw [bv_get hj] at hv
  cases hv
  exact hC j hj
theorem wpList_store_ay {ops : Array Oper} {rest : List Oper} {o : Oper} {a : Act} {w : World} {Q : Exit → Act → World → Prop} (hgd : o.guard = none) (ty n : Nat) (hA : Arb ty n) (x y : Operand) (ho : o.op = .store ty x y)
    (g : Nat) (l old : List Int) (hx : a.eval x = .pointer (some ⟨g, 0, none⟩)) (hy : a.eval y = .agg (bv l).toArray) (hC : Ay ty w g old) (ho' : old.length = n) (hn : l.length = n)
    (h : ∀ w', Ay ty w' g l → w.grownBy w' (some g) → wpList Tryd.prog ops Q rest (a.put o.dst undef) w') : wpList Tryd.prog ops Q (o :: rest) a w := by
  obtain ⟨hu, hi⟩ := hA.facts
  refine wpList_store_row hgd ty x y ho g _ hx hy ty _ hC (by rw [hi]; simp [hn, bv]) (by simp [ho', hn, bv]) (by simpa [List.all_eq_true] using bv_oneCell l) (h _ (setRow_heap w g _ _ ty _ hC) (grownBy_setRow _ _ _))
theorem ret_ay {fn : Func} {R : Ending → World → Prop} {a : Act} {w : World} (ty n : Nat) (hA : Arb ty n) (p : Tmp) (hr : fn.results = #[.cell p ty]) (g : Nat) (hp : a.tmps.getD p undef = .pointer (some ⟨g, 0, none⟩)) (l : List Int) (hC : Ay ty w g l) (hn : l.length = n)
    (hd : a.defers = []) (hR : R (.returned (.agg (bv l).toArray)) w) : bodyPost Tryd.prog fn R .ret a w := by
  obtain ⟨hu, hi⟩ := hA.facts
  exact bodyPost_ret (results_cell_row hr a.tmps w g ty _ _ _ hp hC hu rfl (by rw [hi]; simp [hn, bv])) hd hR
theorem arb_zero {ty n : Nat} (h : Arb ty n) (w : World) : (zeroValue ty).run Tryd.prog w = .ok (.agg (bv (List.replicate n 0)).toArray) w := by
  rcases h with ⟨rfl, rfl⟩ | ⟨rfl, rfl⟩
  · exact (zero_of_info (P := Tryd.prog) (t := 38) (v := .agg (bv (List.replicate 64 0)).toArray) (n := 64) (by kernel_rfl)).1 w
  · exact (zero_of_info (P := Tryd.prog) (t := 35) (v := .agg (bv (List.replicate 32 0)).toArray) (n := 32) (by kernel_rfl)).1 w
theorem wpList_alloc_ay {ops : Array Oper} {rest : List Oper} {o : Oper} {a : Act} {w : World} {Q : Exit → Act → World → Prop} (hgd : o.guard = none) (ty n : Nat) (hA : Arb ty n) (ho : o.op = .alloc ty)
    (h : ∀ g w', w.heap.size = g → Ay ty w' g (List.replicate n 0) → w.grownBy w' none → wpList Tryd.prog ops Q rest (a.put o.dst (.pointer (some ⟨g, 0, none⟩))) w') : wpList Tryd.prog ops Q (o :: rest) a w := by
  refine wpList_plain hgd fun K hK => ?_
  unfold Oper.wp
  have := hK _ _ (h _ _ rfl (Ay.made ty w (List.replicate n 0)) (alloc_grown w _ none))
  simp [execOp, ho, Instr.alloc, arb_zero hA, newVar, newRow, Result.andThen, Value.cells]
  exact this
theorem wpList_box_ay {ops : Array Oper} {rest : List Oper} {o : Oper} {a : Act} {w : World} {Q : Exit → Act → World → Prop} (hgd : o.guard = none) (ty n : Nat) (hA : Arb ty n) (x : Operand) (ho : o.op = .box ty x) (l : List Int) (hx : a.eval x = .agg (bv l).toArray)
    (h : ∀ g w', w.heap.size = g → Ay ty w' g l → w.grownBy w' none → wpList Tryd.prog ops Q rest (a.put o.dst (.pointer (some ⟨g, 0, none⟩))) w') : wpList Tryd.prog ops Q (o :: rest) a w := by
  refine wpList_plain hgd fun K hK => ?_
  unfold Oper.wp
  have := hK _ _ (h _ _ rfl (Ay.made ty w l) (alloc_grown w _ none))
  simp [execOp, ho, hx, Instr.box, newVar, newRow, Result.andThen, Value.cells]
  exact this
theorem step_store_ay {w : World} {ops : Array Oper} {o : Oper} {a : Act} {K : Act → World → Prop} {Q : Exit → Act → World → Prop} {E : Prop} (hgd : o.guard = none) (ty n : Nat) (hA : Arb ty n) (x y : Operand) (ho : o.op = .store ty x y)
    (g : Nat) (l old : List Int) (hx : a.eval x = .pointer (some ⟨g, 0, none⟩)) (hy : a.eval y = .agg (bv l).toArray) (hC : Ay ty w g old) (ho' : old.length = n) (hn : l.length = n)
    (h : ∀ w', Ay ty w' g l → w.grownBy w' (some g) → K (a.put o.dst undef) w') :
    if Region.wanted o (yielded ops a.tmps) = true then Oper.wp Tryd.prog o a w K Q else E := by
  have hw : Region.wanted o (yielded ops a.tmps) = true := by simp [Region.wanted, hgd]
  rw [if_pos hw]
  obtain ⟨hu, hi⟩ := hA.facts
  exact wp_store_row ty x y ho g _ hx hy ty _ hC (by rw [hi]; simp [hn, bv]) (by simp [ho', hn, bv]) (by simpa [List.all_eq_true] using bv_oneCell l) (h _ (setRow_heap w g _ _ ty _ hC) (grownBy_setRow _ _ _))
/-- Whether two arrays are one: byte by byte. -/
theorem items_eq (d : Nat) (w : World) (xs ys : List Int) (hl : xs.length = ys.length) : ∀ (m k : Nat), k + m = xs.length →
    (Op.eqItems (d + 1) 5 1 (bv xs).toArray (bv ys).toArray (List.range' k m)).run Tryd.prog w = .ok (decide (xs.drop k = ys.drop k)) w
  | 0, k, h => by
    rw [List.drop_of_length_le (by omega), List.drop_of_length_le (by omega)]
    simp [Op.eqItems]
  | m + 1, k, h => by
    have hx : k < xs.length := by omega
    have hy : k < ys.length := by omega
    have p1 : (_root_.Go.part 5 (bv xs).toArray (k * 1)).run Tryd.prog w = .ok (.int .u8 xs[k]) w := run_part_plain w (by kernel_rfl) (by simp [bv, hx])
    have p2 : (_root_.Go.part 5 (bv ys).toArray (k * 1)).run Tryd.prog w = .ok (.int .u8 ys[k]) w := run_part_plain w (by kernel_rfl) (by simp [bv, hy])
    have hq : (Op.equalIn (d + 1) 5 (.int .u8 xs[k]) (.int .u8 ys[k])).run Tryd.prog w = .ok (xs[k] == ys[k]) w := by
      simp [Op.equalIn, run_underlying Tryd.underlying5]
    rw [List.range'_succ, Op.eqItems]
    simp only [Sem.run_bind, p1, p2, hq, Result.andThen_ok]
    have dx := List.drop_eq_getElem_cons hx
    have dy := List.drop_eq_getElem_cons hy
    by_cases e : xs[k] = ys[k]
    · have ih := items_eq d w xs ys hl m (k + 1) (by omega)
      have hd : decide (xs.drop k = ys.drop k) = decide (xs.drop (k + 1) = ys.drop (k + 1)) := by
        rw [decide_eq_decide]
        constructor
        · intro h; rw [dx, dy] at h; exact (List.cons.inj h).2
        · intro h; rw [dx, dy, e, h]
      rw [hd]
      simp [e, ih]
    · have hd : decide (xs.drop k = ys.drop k) = false := by
        refine decide_eq_false fun h => e ?_
        rw [dx, dy] at h; exact (List.cons.inj h).1
      rw [hd]
      simp [e]
theorem equal_ay {ty n : Nat} (hA : Arb ty n) (xs ys : List Int) (hx : xs.length = n) (hy : ys.length = n) (w : World) :
    (binOp .eql ty (.agg (bv xs).toArray) (.agg (bv ys).toArray)).run Tryd.prog w = .ok (.bool (decide (xs = ys))) w := by
  rw [run_eql_struct, show (10000 : Nat) = 9999 + 1 from rfl, run_equalIn_array w 9999 _ _ hA.facts.1 u8info.choose_spec.1]
  rw [show Tryd.prog.cellsOf 5 = 1 from by kernel_rfl, List.range_eq_range']
  have := items_eq 9998 w xs ys (by omega) n 0 (by omega)
  rw [show (9999 : Nat) = 9998 + 1 from rfl, this]
  simp [Result.andThen]
theorem step_eql_ay {w : World} {ops : Array Oper} {o : Oper} {a : Act} {K : Act → World → Prop} {Q : Exit → Act → World → Prop} {E : Prop} (hgd : Region.wanted o (yielded ops a.tmps) = true) (ty n : Nat) (hA : Arb ty n) (x y : Operand) (rt : TypeId) (ho : o.op = .binOp .eql ty x y rt)
    (xs ys : List Int) (hx : a.eval x = .agg (bv xs).toArray) (hy : a.eval y = .agg (bv ys).toArray) (lx : xs.length = n) (ly : ys.length = n)
    (h : K (a.put o.dst (.bool (decide (xs = ys)))) w) :
    if Region.wanted o (yielded ops a.tmps) = true then Oper.wp Tryd.prog o a w K Q else E := by
  rw [if_pos hgd]
  have hg : Tryd.prog.eqGuardType Tryd.prog.depth ty = false := by
    rcases hA with ⟨rfl, _⟩ | ⟨rfl, _⟩ <;> kernel_rfl
  have e1 := fun x y => run_eqGuard_agg (P := Tryd.prog) (w := w) .eql ty x y (bv xs).toArray (bv ys).toArray hg
  have e2 := equal_ay hA xs ys lx ly w
  unfold Oper.wp
  simp only [execOp, ho, hx, hy, Sem.run_bind, e1, e2, Result.andThen_ok, Sem.run_pure, Oper.upon_value]
  exact h
end Go.Proofs.YtknkmblacaaegaaDoor
