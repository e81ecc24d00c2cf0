/- Arrays of words in memory: a whole block. -/
import Derived.Test.YtknkmblacaaegaaDoorShaRot
import Derived.Laws.Tables
import Derived.Laws.Rows
import Derived.Laws.CopyOwn
import Derived.StillTailTactics
import Derived.BigQuiet
import Derived.Deep.WholeRow
import Derived.Deep.DeepCutAuto
import Derived.Deep.RegionHeld3
namespace Go.Proofs.YtknkmblacaaegaaDoor
open Go.RowKit
set_option linter.unusedVariables false
set_option linter.unusedSimpArgs false

/-- Block g holds the cells cs. -/
def Cel (w : World) (g : Nat) (cs : List Value) : Prop := ∃ t, w.heap[g]? = some (.cells cs.toArray t (0, 0))
def wv (l : List Nat) : List Value := l.map fun n => Value.int .u32 (n : Nat)
theorem wv_length (l : List Nat) : (wv l).length = l.length := by simp [wv]
theorem wv_one (l : List Nat) : ∀ v ∈ wv l, v.oneCell' = true := by
  intro v hv
  simp only [wv, List.mem_map] at hv
  obtain ⟨n, _, rfl⟩ := hv
  rfl
theorem Cel.lt {w : World} {g : Nat} {cs : List Value} (h : Cel w g cs) : g < w.heap.size := by
  obtain ⟨t, h⟩ := h; exact (Array.getElem?_eq_some_iff.1 h).1
theorem Cel.cell {w : World} {g : Nat} {cs : List Value} (h : Cel w g cs) {i : Nat} {v : Value} (hv : cs[i]? = some v) : w.cell? ⟨g, i, none⟩ = some v := by
  obtain ⟨t, h⟩ := h
  rw [cell_of_row w g i _ t _ h]
  simpa using hv
theorem Cel.frozen {w : World} {g : Nat} {cs : List Value} (h : Cel w g cs) (i : Nat) : w.frozen? ⟨g, i, none⟩ = false := by
  obtain ⟨t, h⟩ := h
  simp [World.frozen?, h]
theorem Cel.set {w : World} {g : Nat} {cs : List Value} (h : Cel w g cs) (i : Nat) (v : Value) : Cel (w.setCell ⟨g, i, none⟩ v) g (cs.set i v) := by
  obtain ⟨t, h⟩ := h
  refine ⟨t, ?_⟩
  rw [setCell_eq_setRow w g i _ t _ v h, setRow_heap w g _ _ t _ h]
  simp
theorem Cel.row {w : World} {g : Nat} {cs ds : List Value} (h : Cel w g cs) : Cel (w.setRow g ds.toArray) g ds := by
  obtain ⟨t, h⟩ := h
  exact ⟨t, setRow_heap w g _ _ t _ h⟩
theorem Cel.grown {w w' : World} {g : Nat} {cs : List Value} {row : Option Nat} (h : Cel w g cs) (hg : w.grownBy w' row) (hr : row ≠ some g) : Cel w' g cs := by
  have hl := h.lt
  obtain ⟨t, h⟩ := h
  exact ⟨t, (hg.block g hl (fun e => hr e.symm)).trans h⟩
theorem Cel.below {w w' : World} {g B : Nat} {cs : List Value} (h : Cel w g cs) (hb : Below B w w') (hB : g < B) : Cel w' g cs := by
  obtain ⟨t, h⟩ := h
  exact ⟨t, (hb.block g hB).trans h⟩
theorem Cel.past {w w' : World} {g : Nat} {cs : List Value} (h : Cel w g cs) (hb : Below w.heap.size w w') : Cel w' g cs := h.below hb h.lt
theorem Cel.drewN {w : World} {g : Nat} {cs : List Value} (h : Cel w g cs) (n : Nat) : Cel (w.drewN n) g cs := h
theorem Cel.drew {w : World} {g : Nat} {cs : List Value} (h : Cel w g cs) : Cel w.drew g cs := h
theorem Cel.made (w : World) (cs : List Value) (t : TypeId) : Cel (w.alloc (.cells cs.toArray t)) w.heap.size cs := ⟨t, heap_alloc_new w _⟩
theorem Cel.alloc {w : World} {g : Nat} {cs : List Value} (h : Cel w g cs) (o : Obj) : Cel (w.alloc o) g cs := h.past (alloc_below w o)
theorem Cel.far {w : World} {g : Nat} {cs : List Value} (h : Cel w g cs) (a : Addr) (u : Value) (ha : a.block ≠ g) : Cel (w.setCell a u) g cs :=
  h.grown (grownBy_setCell w a u) (fun e => ha (Option.some.inj e))
theorem grownBy_setRow (w : World) (g : Nat) (cs : Array Value) : w.grownBy (w.setRow g cs) (some g) :=
  ⟨rfl, rfl, rfl, by simp [World.setRow], fun k _ hk => setRow_other w g k cs (fun e => hk (by rw [e]))⟩

/-- The types that are arrays of words: how many they hold. -/
def Arr (ty n : Nat) : Prop := (ty = 181 ∧ n = 64) ∨ (ty = 66 ∧ n = 8) ∨ (ty = 67 ∧ n = 8)
theorem Arr.facts {ty n : Nat} (h : Arr ty n) : (∃ len el, Tryd.prog.underlying ty = some (.array len el)) ∧ (Tryd.prog.info? ty).map (·.size) = some n := by
  rcases h with ⟨rfl, rfl⟩ | ⟨rfl, rfl⟩ | ⟨rfl, rfl⟩
  · exact ⟨⟨_, _, Tryd.underlying181⟩, by kernel_rfl⟩
  · exact ⟨⟨_, _, Tryd.underlying66⟩, by kernel_rfl⟩
  · exact ⟨⟨_, _, Tryd.underlying67⟩, by kernel_rfl⟩
theorem arr64 : Arr 181 64 := Or.inl ⟨rfl, rfl⟩
theorem arr8 : Arr 66 8 := Or.inr (Or.inl ⟨rfl, rfl⟩)
theorem arrS : Arr 67 8 := Or.inr (Or.inr ⟨rfl, rfl⟩)
theorem wpList_load_cel {ops : Array Oper} {rest : List Oper} {o : Oper} {a : Act} {w : World} {Q : Exit → Act → World → Prop} (hgd : o.guard = none) (ty n : Nat) (hA : Arr ty n) (x : Operand) (ho : o.op = .load ty x)
    (g : Nat) (hx : a.eval x = .pointer (some ⟨g, 0, none⟩)) (cs : List Value) (hC : Cel w g cs) (hn : cs.length = n)
    (h : wpList Tryd.prog ops Q rest (a.put o.dst (.agg cs.toArray)) w) : wpList Tryd.prog ops Q (o :: rest) a w := by
  obtain ⟨⟨len, el, hu⟩, hi⟩ := hA.facts
  obtain ⟨t, hg⟩ := hC
  exact wpList_load_row hgd ty x ho g hx t _ _ _ hg hu rfl (by rw [hi]; simp [hn]) h
theorem wpList_store_cel {ops : Array Oper} {rest : List Oper} {o : Oper} {a : Act} {w : World} {Q : Exit → Act → World → Prop} (hgd : o.guard = none) (ty n : Nat) (hA : Arr ty n) (x y : Operand) (ho : o.op = .store ty x y)
    (g : Nat) (cs old : List Value) (hx : a.eval x = .pointer (some ⟨g, 0, none⟩)) (hy : a.eval y = .agg cs.toArray) (hC : Cel w g old) (ho' : old.length = n) (hn : cs.length = n) (h1 : ∀ v ∈ cs, v.oneCell' = true)
    (h : ∀ w', Cel w' g cs → w.grownBy w' (some g) → wpList Tryd.prog ops Q rest (a.put o.dst undef) w') : wpList Tryd.prog ops Q (o :: rest) a w := by
  obtain ⟨⟨len, el, hu⟩, hi⟩ := hA.facts
  have hC' := hC
  obtain ⟨t, hg⟩ := hC
  refine wpList_store_row hgd ty x y ho g _ hx hy t _ hg (by rw [hi]; simp [hn]) (by simp [ho', hn]) (by simpa [List.all_eq_true] using h1) (h _ hC'.row (grownBy_setRow _ _ _))
theorem ret_cel {fn : Func} {R : Ending → World → Prop} {a : Act} {w : World} (ty n : Nat) (hA : Arr ty n) (p : Tmp) (hr : fn.results = #[.cell p ty]) (g : Nat) (hp : a.tmps.getD p undef = .pointer (some ⟨g, 0, none⟩)) (cs : List Value) (hC : Cel w g cs) (hn : cs.length = n)
    (hd : a.defers = []) (hR : R (.returned (.agg cs.toArray)) w) : bodyPost Tryd.prog fn R .ret a w := by
  obtain ⟨⟨len, el, hu⟩, hi⟩ := hA.facts
  obtain ⟨t, hg⟩ := hC
  exact bodyPost_ret (results_cell_row hr a.tmps w g t _ _ _ hp hg hu rfl (by rw [hi]; simp [hn])) hd hR
theorem arr_zero {ty n : Nat} (h : Arr ty n) (w : World) : (zeroValue ty).run Tryd.prog w = .ok (.agg (wv (List.replicate n 0)).toArray) w := by
  rcases h with ⟨rfl, rfl⟩ | ⟨rfl, rfl⟩ | ⟨rfl, rfl⟩
  · exact (zero_of_info (P := Tryd.prog) (t := 181) (v := .agg (wv (List.replicate 64 0)).toArray) (n := 64) (by kernel_rfl)).1 w
  · exact (zero_of_info (P := Tryd.prog) (t := 66) (v := .agg (wv (List.replicate 8 0)).toArray) (n := 8) (by kernel_rfl)).1 w
  · exact (zero_of_info (P := Tryd.prog) (t := 67) (v := .agg (wv (List.replicate 8 0)).toArray) (n := 8) (by kernel_rfl)).1 w
theorem step_alloc_cel {w : World} {ops : Array Oper} {o : Oper} {a : Act} {K : Act → World → Prop} {Q : Exit → Act → World → Prop} {E : Prop} (hgd : o.guard = none) (ty n : Nat) (hA : Arr ty n) (ho : o.op = .alloc ty)
    (h : ∀ g w', w.heap.size = g → Cel w' g (wv (List.replicate n 0)) → w.grownBy w' none → K (a.put o.dst (.pointer (some ⟨g, 0, none⟩))) w') :
    if Region.wanted o (yielded ops a.tmps) = true then Oper.wp Tryd.prog o a w K Q else E := by
  have hw : Region.wanted o (yielded ops a.tmps) = true := by simp [Region.wanted, hgd]
  rw [if_pos hw]
  unfold Oper.wp
  have := h _ _ rfl (Cel.made w (wv (List.replicate n 0)) ty) (alloc_grown w _ none)
  simp [execOp, ho, Instr.alloc, arr_zero hA, newVar, newRow, Result.andThen, Value.cells]

  exact this
theorem step_store_cel {w : World} {ops : Array Oper} {o : Oper} {a : Act} {K : Act → World → Prop} {Q : Exit → Act → World → Prop} {E : Prop} (hgd : o.guard = none) (ty n : Nat) (hA : Arr ty n) (x y : Operand) (ho : o.op = .store ty x y)
    (g : Nat) (cs old : List Value) (v : Value) (hx : a.eval x = .pointer (some ⟨g, 0, none⟩)) (hy : a.eval y = v) (hv : v = .agg cs.toArray) (hC : Cel w g old) (ho' : old.length = n) (hn : cs.length = n) (h1 : ∀ v ∈ cs, v.oneCell' = true)
    (h : ∀ w', Cel w' g cs → w.grownBy w' (some g) → K (a.put o.dst undef) w') :
    if Region.wanted o (yielded ops a.tmps) = true then Oper.wp Tryd.prog o a w K Q else E := by
  have hw : Region.wanted o (yielded ops a.tmps) = true := by simp [Region.wanted, hgd]
  rw [if_pos hw]
  obtain ⟨⟨len, el, hu⟩, hi⟩ := hA.facts
  have hC' := hC
  obtain ⟨t, hg⟩ := hC
  exact wp_store_row ty x y ho g _ hx (hy.trans hv) t _ hg (by rw [hi]; simp [hn]) (by simp [ho', hn]) (by simpa [List.all_eq_true] using h1) (h _ hC'.row (grownBy_setRow _ _ _))
/-- An array's element, of an array that is a value. -/
theorem arr_index {ty n : Nat} (hA : Arr ty n) (cs : List Value) (k : Nat) (v : Value) (hv : cs[k]? = some v) (hk : k < n) (w : World) : (Instr.index ty (.agg cs.toArray) (.int .i64 (k : Nat))).run Tryd.prog w = .ok v w := by
  have key : ∀ ty, Tryd.prog.underlying ty = some (.array n 65) → (Instr.index ty (.agg cs.toArray) (.int .i64 (k : Nat))).run Tryd.prog w = .ok v w := fun ty hu => by
    obtain ⟨i, hi1, _, hi2, _⟩ := info_parts (by kernel_rfl : (Tryd.prog.info? 65).map (fun i => (i.zero, i.size, i.bytes)) = some (some (.int .u32 0), 1, 4))
    have hk' : (k : Int) < (n : Int) := by omega
    simp [Instr.index, run_underlying hu, asIntOf, hk', sizeOf, typeInfo, hi1, hi2, part, isAgg, run_underlying Tryd.underlying65, hv, go_sem]
    intro h
    omega
  rcases hA with ⟨rfl, rfl⟩ | ⟨rfl, rfl⟩ | ⟨rfl, rfl⟩
  · exact key _ Tryd.underlying181
  · exact key _ Tryd.underlying66
  · exact key _ Tryd.underlying67
theorem wv_at {l : List Nat} {k : Nat} (h : k < l.length) : (wv l)[k]? = some (.int .u32 (wth l k : Nat)) := by
  simp [wv, wth, List.getD, h]
end Go.Proofs.YtknkmblacaaegaaDoor
