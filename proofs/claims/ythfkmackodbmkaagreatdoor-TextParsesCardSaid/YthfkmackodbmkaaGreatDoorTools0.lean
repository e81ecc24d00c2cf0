/- More that all layers share: numbers that came in, what append, copy and slices do, arguments with their ranges (nothing of rows that lie apart). -/
import Derived.Test.YthfkmackodbmkaaGreatDoorApp
import Derived.Test.YthfkmackodbmkaaGreatDoorOpen0
import Derived.Laws.CopyOwn
import Derived.BigFrame
import Derived.Deep.Upon
namespace Go.Proofs.YthfkmackodbmkaaGreatDoor
open Go.ChangeShapes Go.WideShapes Go.ChangeAt Go.RowKit
set_option linter.unusedVariables false
set_option linter.unusedSimpArgs false
set_option maxRecDepth 100000

/-- append, of bytes to a row of the call's own, inside a region that draws its order. -/
theorem step_append_bs {w : World} {ops : Array Oper} {o : Oper} {a : Act} {K : Act → World → Prop} {Q : Exit → Act → World → Prop} {E : Prop} (hgd : o.guard = none) (s x : Operand)
    (ho : o.op = .call { callee := .builtin .append, args := #[s, x], argTypes := #[42, 42] })
    (base : Nat) (v : Value) (xs : List Int) (hs : a.eval s = v) (hown : Own w base v xs) (u : Value) (ys : List Int) (hx : a.eval x = u) (hu : Bs w u ys) (hpos : 0 < ys.length) (p : Nat) (hp : xs.length + ys.length = p)
    (hlen : p ≤ 140737488355328) (hbase : base ≤ w.heap.size)
    (h : ∀ ao cap w', Own w' base (.slice ao p cap) (xs ++ ys) → w.grownBy w' v.ownBlock → K (a.put o.dst (.slice ao p cap)) w') :
    if Region.wanted o (yielded ops a.tmps) = true then Oper.wp Tryz.prog o a w K Q else E := by
  have hw : Region.wanted o (yielded ops a.tmps) = true := by simp [Region.wanted, hgd]
  rw [if_pos hw]
  obtain ⟨b, off, cap, rfl, -, -, -, cells⟩ := hu.at hpos
  obtain ⟨v', w', hrun, r1, r2⟩ := run_append_two w base o.type v xs hown ⟨b, off, none⟩ cap ys hpos (fun j hj => by rw [add_none]; exact cells j hj) (by omega) hbase
  obtain ⟨ao, c, rfl⟩ := r1.bs.shape
  rw [List.length_append, hp] at r1 hrun
  have hg : w.grownBy w' v.ownBlock := by
    rcases r2 with ⟨g, n, c', rfl, _, hg⟩ | ⟨_, hg⟩
    · exact hg
    · exact ⟨hg.os, hg.tape, hg.output, hg.size, fun k hk _ => hg.block k hk (by simp)⟩
  unfold Oper.wp
  simp [execOp, ho, resolve, invoke, builtin, hs, hx, hrun, Result.andThen]
  exact h _ _ _ r1 hg
/-- A row of the call's own in a block from lo on, below hi. -/
def Row (w : World) (lo hi : Nat) (v : Value) (l : List Int) : Prop := Own w lo v l ∧ (∀ Y, v.ownBlock = some Y → Y < hi) ∧ hi ≤ w.heap.size ∧ lo ≤ hi
theorem Row.past {w w' : World} {lo hi : Nat} {v : Value} {l : List Int} (h : Row w lo hi v l) (hb : Below w.heap.size w w') : Row w' lo hi v l := ⟨h.1.below hb (Nat.le_refl _), h.2.1, Nat.le_trans h.2.2.1 hb.size, h.2.2.2⟩
theorem Row.of {w w' : World} {v : Value} {l : List Int} (h : Own w' w.heap.size v l) (hb : Below w.heap.size w w') : Row w' w.heap.size w'.heap.size v l := ⟨h, fun Y hY => (h.lt Y hY).2, Nat.le_refl _, hb.size⟩
theorem Row.bs {w : World} {lo hi : Nat} {v : Value} {l : List Int} (h : Row w lo hi v l) : Bs w v l := h.1.bs
theorem Lends.shaped {l : List Int} {w w' : World} {e : Ending} (h : Lends l w e w') {n : Nat} (hn : l.length = n) : ∃ g, e = .returned (.slice (some ⟨g, 0, none⟩) n (n + 12)) ∧ Lent w' w.heap.size (.slice (some ⟨g, 0, none⟩) n (n + 12)) l ∧ Below w.heap.size w w' := by
  obtain ⟨v, rfl, hl, hb⟩ := h
  obtain ⟨g, rfl, h1, h2, h3⟩ := hl
  subst hn
  exact ⟨g, rfl, ⟨g, rfl, h1, h2, h3⟩, hb⟩
theorem Lent.mono {w : World} {base base' : Nat} {v : Value} {l : List Int} (h : Lent w base v l) (hb : base' ≤ base) : Lent w base' v l := by
  obtain ⟨g, hv, h1, h2, hr⟩ := h
  exact ⟨g, hv, Nat.le_trans hb h1, h2, hr⟩
theorem run_append_any (w : World) (base : Nat) (ty : TypeId) (v : Value) (xs : List Int) (hown : Own w base v xs) (u : Value) (ys : List Int) (hu : Bs w u ys) (hlen : xs.length + ys.length ≤ 140737488355328) (hbase : base ≤ w.heap.size) :
    ∃ v' w', (Builtin.append_ #[42, 42] ty #[v, u]).run Tryz.prog w = .ok v' w' ∧ Own w' base v' (xs ++ ys) ∧ w.grownBy w' v.ownBlock := by
  by_cases hpos : 0 < ys.length
  · obtain ⟨b, off, cap, rfl, -, -, -, cells⟩ := hu.at hpos
    obtain ⟨v', w', hrun, r1, r2⟩ := run_append_two w base ty v xs hown ⟨b, off, none⟩ cap ys hpos (fun j hj => by rw [add_none]; exact cells j hj) (by omega) hbase
    refine ⟨v', w', hrun, r1, ?_⟩
    rcases r2 with ⟨g, n, c', rfl, _, hg⟩ | ⟨_, hg⟩
    · exact hg
    · exact ⟨hg.os, hg.tape, hg.output, hg.size, fun k hk _ => hg.block k hk (by simp)⟩
  · obtain rfl : ys = [] := List.eq_nil_of_length_eq_zero (by omega)
    obtain ⟨i, hi, hz, hs1, hb1⟩ := u8info
    obtain ⟨ao, cap, rfl, h1, h2, h3, h4⟩ := hown.bs
    obtain ⟨ao', cap', rfl, k1, k2, k3, k4⟩ := hu
    have hsrc : Src Tryz.prog i.size 42 (.slice ao' 0 cap') 0 [] w := by
      cases ao' with
      | none => exact Src.ofNil w Tryz.underlying42 cap'
      | some a => exact Src.ofSlice w Tryz.underlying42 a 0 cap' [] (by simp) (fun j u h => by simp at h) (fun u h => by cases h)
    refine ⟨_, _, run_append_nothing w 42 42 ty 5 i Tryz.underlying42 hi ao xs.length cap h1 _ hsrc, by rw [List.append_nil]; exact hown, grownBy_refl _ _⟩
theorem step_append_any {w : World} {ops : Array Oper} {o : Oper} {a : Act} {K : Act → World → Prop} {Q : Exit → Act → World → Prop} {E : Prop} (hgd : o.guard = none) (s x : Operand)
    (ho : o.op = .call { callee := .builtin .append, args := #[s, x], argTypes := #[42, 42] })
    (base : Nat) (v : Value) (xs : List Int) (hs : a.eval s = v) (hown : Own w base v xs) (u : Value) (ys : List Int) (hx : a.eval x = u) (hu : Bs w u ys)
    (hlen : xs.length + ys.length ≤ 140737488355328) (hbase : base ≤ w.heap.size)
    (h : ∀ v' w', Own w' base v' (xs ++ ys) → w.grownBy w' v.ownBlock → K (a.put o.dst v') w') :
    if Region.wanted o (yielded ops a.tmps) = true then Oper.wp Tryz.prog o a w K Q else E := by
  have hw : Region.wanted o (yielded ops a.tmps) = true := by simp [Region.wanted, hgd]
  rw [if_pos hw]
  obtain ⟨v', w', hrun, r1, r2⟩ := run_append_any w base o.type v xs hown u ys hu hlen hbase
  unfold Oper.wp
  simp [execOp, ho, resolve, invoke, builtin, hs, hx, hrun, Result.andThen]
  exact h _ _ r1 r2
/-- The part from p to p + m of a slice, as the walk takes it. -/
theorem slice_part (ao : Option Addr) (n cap p m : Nat) (h2 : p + m ≤ cap) (W : World) :
    (Instr.slice 42 (.slice ao n cap) (some (.int .i64 (p : Nat))) (some (.int .i64 ((p + m : Nat) : Int))) none).run Tryz.prog W = .ok (.slice (if cap - p = 0 then ao else ao.map (·.add p)) m (cap - p)) W := by
  have he : Tryz.prog.underlying 42 = some (.slice (Tryz.prog.elem 42)) := by kernel_rfl
  obtain ⟨i, hi, _, hs1, _⟩ := u8info
  have hel : Tryz.prog.elem 42 = 5 := by kernel_rfl
  rw [run_slice_lh W 42 ao n cap he .i64 .i64 (p : Nat) ((p + m : Nat) : Int) (by omega) (by omega) (by omega)]
  rw [hel]
  have e3 : (if cap = p then ao else ao.map (·.add (p * 1))) = (if cap - p = 0 then ao else ao.map (·.add p)) := by
    by_cases h : cap = p
    · rw [if_pos h, if_pos (by omega)]
    · rw [if_neg h, if_neg (by omega), Nat.mul_one]
  have hsz : (sizeOf 5).run Tryz.prog W = .ok 1 W := by simp [sizeOf, typeInfo, hi, hs1]
  rw [hsz]
  simp only [Result.andThen, sliced, Int.toNat_natCast]
  rw [e3, Nat.add_sub_cancel_left]
/-- A slice taken, inside a region that draws its order. -/
theorem step_slice {w : World} {ops : Array Oper} {o : Oper} {a : Act} {K : Act → World → Prop} {Q : Exit → Act → World → Prop} {E : Prop} (hgd : o.guard = none) (s lo hi : Operand)
    (ho : o.op = .slice 42 s (some lo) (some hi) none) (v l h u : Value) (hs : a.eval s = v) (hl : a.eval lo = l) (hh : a.eval hi = h)
    (hrun : ∀ W, (Instr.slice 42 v (some l) (some h) none).run Tryz.prog W = .ok u W) (k : K (a.put o.dst u) w) :
    if Region.wanted o (yielded ops a.tmps) = true then Oper.wp Tryz.prog o a w K Q else E := by
  have hw : Region.wanted o (yielded ops a.tmps) = true := by simp [Region.wanted, hgd]
  rw [if_pos hw]
  have he : Tryz.prog.underlying 42 = some (.slice (Tryz.prog.elem 42)) := by kernel_rfl
  have h2 := run_sliceAt_slice (P := Tryz.prog) w 42 v (some l) (some h) none he
  rw [hrun] at h2
  unfold Oper.wp
  simp [execOp, ho, hs, hl, hh, h2, Result.andThen]
  exact k
theorem new_grown {w w' : World} {o : Obj} {n c : Nat} (h : (w.alloc o).drew.grownBy w' (Value.slice (some ⟨w.heap.size, 0, none⟩) n c).ownBlock) : w.grownBy w' none := by
  have hs : w.heap.size ≤ (w.alloc o).drew.heap.size := (alloc_grown w o none).size
  exact ⟨h.os, h.tape, h.output, Nat.le_trans hs h.size, fun k hk _ => (h.block k (Nat.lt_of_lt_of_le hk hs) (fun e => by have e := Option.some.inj e; dsimp only at e; omega)).trans (heap_alloc_old w o hk)⟩
/-- A beginning of a slice, as the walk takes it. -/
theorem slice_to (ao : Option Addr) (n cap c : Nat) (h2 : c ≤ cap) (W : World) :
    (Instr.slice 42 (.slice ao n cap) none (some (.int .i64 (c : Nat))) none).run Tryz.prog W = .ok (.slice ao c cap) W := by
  have he : Tryz.prog.underlying 42 = some (.slice (Tryz.prog.elem 42)) := by kernel_rfl
  obtain ⟨i, hi, _, hs1, _⟩ := u8info
  have hel : Tryz.prog.elem 42 = 5 := by kernel_rfl
  rw [run_slice_h (w := W) 42 ao n cap he .i64 (c : Nat) (by omega) (by omega)]
  rw [hel]
  have hsz : (sizeOf 5).run Tryz.prog W = .ok 1 W := by simp [sizeOf, typeInfo, hi, hs1]
  rw [hsz]
  simp only [Result.andThen, sliced, Int.toNat_natCast]
  by_cases h : cap = 0
  · rw [if_pos h]; simp
  · rw [if_neg h]
    cases ao with
    | none => simp
    | some a => simp [Addr.add]
theorem step_slice_to {w : World} {ops : Array Oper} {o : Oper} {a : Act} {K : Act → World → Prop} {Q : Exit → Act → World → Prop} {E : Prop} (hgd : o.guard = none) (s hi : Operand)
    (ho : o.op = .slice 42 s none (some hi) none) (v h u : Value) (hs : a.eval s = v) (hh : a.eval hi = h)
    (hrun : ∀ W, (Instr.slice 42 v none (some h) none).run Tryz.prog W = .ok u W) (k : K (a.put o.dst u) w) :
    if Region.wanted o (yielded ops a.tmps) = true then Oper.wp Tryz.prog o a w K Q else E := by
  have hw : Region.wanted o (yielded ops a.tmps) = true := by simp [Region.wanted, hgd]
  rw [if_pos hw]
  have he : Tryz.prog.underlying 42 = some (.slice (Tryz.prog.elem 42)) := by kernel_rfl
  have h2 := run_sliceAt_slice (P := Tryz.prog) w 42 v none (some h) none he
  rw [hrun] at h2
  unfold Oper.wp
  simp [execOp, ho, hs, hh, h2, Result.andThen]
  exact k
/-- The block that a row of slices stands in. -/
def Is (w : World) (v : Value) (l : List Int) : Prop :=
  ∃ (ao : Option Addr) (cap : Nat), v = .slice ao l.length cap ∧ l.length ≤ cap ∧ cap ≤ maxLen ∧ (ao = none → l = []) ∧ ∀ a, ao = some a → ∀ j, j < l.length → w.cell? (a.add j) = some (.int .i64 (nth l j))
theorem Is.at {w : World} {v : Value} {l : List Int} (h : Is w v l) (hl : 0 < l.length) :
    ∃ b off cap, v = .slice (some ⟨b, off, none⟩) l.length cap ∧ b < w.heap.size ∧ ∀ j, j < l.length → w.cell? ⟨b, off + j, none⟩ = some (.int .i64 (nth l j)) := by
  obtain ⟨ao, cap, rfl, h1, h2, h3, h4⟩ := h
  cases ao with
  | none => have := h3 rfl; subst this; exact absurd hl (Nat.lt_irrefl _)
  | some a =>
    have h0 := h4 a rfl 0 hl
    obtain ⟨b, off, s⟩ := a
    have hs : s = none := by simpa [Addr.add] using World.cell?_spot h0
    subst hs
    refine ⟨b, off, cap, rfl, World.block_lt_of_cell? w _ h0, fun j hj => ?_⟩
    rw [← add_none]; exact h4 _ rfl j hj
theorem Is.shape {w : World} {v : Value} {l : List Int} (h : Is w v l) : ∃ ao cap, v = .slice ao l.length cap := by
  obtain ⟨ao, cap, hv, _⟩ := h; exact ⟨ao, cap, hv⟩
theorem Is.len {w : World} {v : Value} {l : List Int} (h : Is w v l) : l.length ≤ 9223372036854775807 := by
  obtain ⟨ao, cap, rfl, h1, h2, _⟩ := h; unfold maxLen at h2; omega
/-- A literal of small numbers. -/
theorem is_lit (w : World) (ops : List Int) (h : ops.length ≤ 1000) : Is (w.alloc (.cells (ops.map (Value.int .i64)).toArray 3)) (.slice (some ⟨w.heap.size, 0, none⟩) ops.length ops.length) ops :=
  ⟨some ⟨w.heap.size, 0, none⟩, ops.length, rfl, Nat.le_refl _, by unfold maxLen; omega, fun e => (by cases e), fun a ha j hj => by
    cases ha
    rw [add_none, cell_of_row _ w.heap.size (0 + j) _ 3 (0, 0) (heap_alloc_new w _)]
    simp [hj, nth_of hj]⟩
theorem Is.past {w w' : World} {v : Value} {l : List Int} (h : Is w v l) (hb : Below w.heap.size w w') : Is w' v l := by
  obtain ⟨ao, cap, rfl, h1, h2, h3, h4⟩ := h
  refine ⟨ao, cap, rfl, h1, h2, h3, fun a ha j hj => ?_⟩
  have h0 := h4 a ha j hj
  exact (hb.cell (p := a.add j) (World.block_lt_of_cell? w _ h0)).trans h0
theorem small_wf {ops : List Int} (h : ops.all (fun n => decide (0 ≤ n ∧ n < 100)) = true) : ∀ j, j < ops.length → (Lit.int .i64 (nth ops j)).wf = true := fun j hj => by
  have := List.all_eq_true.1 h (nth ops j) (by rw [nth_of hj]; exact List.getElem_mem hj)
  have := of_decide_eq_true this
  simp [Lit.wf, IntKind.min, IntKind.max, IntKind.signed, IntKind.bits]
  omega
theorem Is.grown {w w' : World} {B n c : Nat} {l : List Int} {row : Option Nat} (h : Is w (.slice (some ⟨B, 0, none⟩) n c) l) (hg : w.grownBy w' row) (hne : row ≠ some B) : Is w' (.slice (some ⟨B, 0, none⟩) n c) l := by
  obtain ⟨ao, cap, h1, h2, h3, h4, h5⟩ := h
  cases h1
  refine ⟨_, _, rfl, h2, h3, h4, fun a ha j hj => ?_⟩
  cases ha
  have h0 := h5 _ rfl j hj
  rw [add_none] at h0 ⊢
  exact hg.cell (a := ⟨B, 0 + j, none⟩) h0 (fun e => hne e.symm)
/-- Bytes that came in, from the cell that holds them. -/
theorem open_bs_cell2 {H : Type} {enc : TypeId × Value → H} {W : World} {base : Nat} {held : Bool} {fuel : Nat} {v : Value} {y : DataW H × List MemPlace}
    (h : DataW.trod enc Tryz.prog W base (fun _ => true) held fuel 42 [v] = some y) : ∃ l : List Int, Bs W v l ∧ Oct l := by
  rcases open_ints Tryz.underlying42 Tryz.underlying5 (by kernel_rfl) h with ⟨hcs, hx⟩ | ⟨a, len, cap, zs, hcs, _, hl, hm, hz, hx, hcell, hwz⟩
  · simp at hcs
    subst hcs
    exact ⟨[], Bs.nil W, Oct.nil⟩
  · simp at hcs
    subst hcs
    simp only [if_true] at hz
    have hlen : (zs.take len).length = len := by rw [List.length_take]; omega
    refine ⟨zs.take len, ⟨some a, cap, by rw [hlen], by rw [hlen]; exact hl, hm, (by intro e; cases e), fun a' ha j hj => ?_⟩, fun n hn => u8_bounds (hwz n (List.mem_of_mem_take hn))⟩
    cases ha
    rw [hlen] at hj
    have hj' : j < zs.length := by omega
    rw [hcell j hj', nth_of (by rw [hlen]; exact hj)]
    simp [List.getD, hj', List.getElem_take]
theorem open_bs2 {H : Type} {enc : TypeId × Value → H} {W : World} {r : Reach} {b0 base : Nat} {held : Bool} {v : Value} {d : DataW H} {p : List MemPlace}
    (hval : Value.okWide Tryz.prog W r b0 42 v) (h : DataW.Trod enc Tryz.prog W base (fun _ => true) held 42 v d p) : ∃ l : List Int, Bs W v l ∧ Oct l := by
  obtain ⟨a, len, cap, rfl⟩ := okWide_slice Tryz.underlying42 hval
  obtain ⟨fuel, hf⟩ := h
  have hf : DataW.trod enc Tryz.prog W base (fun _ => true) held fuel 42 [.slice a len cap] = some (d, p) := by simpa [Value.cells] using hf
  rcases open_ints Tryz.underlying42 Tryz.underlying5 (by kernel_rfl) hf with ⟨hcs, hx⟩ | ⟨a', len', cap', zs, hcs, _, hl, hm, hz, hx, hcell, hwz⟩
  · simp at hcs
    obtain ⟨rfl, rfl, rfl⟩ := hcs
    exact ⟨[], Bs.nil W, Oct.nil⟩
  · simp at hcs
    obtain ⟨rfl, rfl, rfl⟩ := hcs
    simp only [if_true] at hz
    have hlen : (zs.take len).length = len := by rw [List.length_take]; omega
    refine ⟨zs.take len, ⟨some a', cap, by rw [hlen], by rw [hlen]; exact hl, hm, (by intro e; cases e), fun a2 ha j hj => ?_⟩, fun n hn => u8_bounds (hwz n (List.mem_of_mem_take hn))⟩
    cases ha
    rw [hlen] at hj
    have hj' : j < zs.length := by omega
    rw [hcell j hj', nth_of (by rw [hlen]; exact hj)]
    simp [List.getD, hj', List.getElem_take]
theorem open_is2 {H : Type} {enc : TypeId × Value → H} {W : World} {r : Reach} {b0 base : Nat} {held : Bool} {v : Value} {d : DataW H} {p : List MemPlace}
    (hval : Value.okWide Tryz.prog W r b0 206 v) (h : DataW.Trod enc Tryz.prog W base (fun _ => true) held 206 v d p) : ∃ l : List Int, Is W v l ∧ ∀ j, j < l.length → (Lit.int .i64 (nth l j)).wf = true := by
  obtain ⟨a, len, cap, rfl⟩ := okWide_slice Tryz.underlying206 hval
  obtain ⟨fuel, hf⟩ := h
  have hf : DataW.trod enc Tryz.prog W base (fun _ => true) held fuel 206 [.slice a len cap] = some (d, p) := by simpa [Value.cells] using hf
  rcases open_ints Tryz.underlying206 Tryz.underlying3 (by kernel_rfl) hf with ⟨hcs, hx⟩ | ⟨a', len', cap', zs, hcs, _, hl, hm, hz, hx, hcell, hwz⟩
  · simp at hcs
    obtain ⟨rfl, rfl, rfl⟩ := hcs
    exact ⟨[], ⟨none, 0, rfl, Nat.le_refl _, Nat.zero_le _, fun _ => rfl, fun _ h => by cases h⟩, fun j hj => by cases hj⟩
  · simp at hcs
    obtain ⟨rfl, rfl, rfl⟩ := hcs
    simp only [if_true] at hz
    have hlen : (zs.take len).length = len := by rw [List.length_take]; omega
    refine ⟨zs.take len, ⟨some a', cap, by rw [hlen], by rw [hlen]; exact hl, hm, (by intro e; cases e), fun a2 ha j hj => ?_⟩, fun j hj => ?_⟩
    · cases ha
      rw [hlen] at hj
      have hj' : j < zs.length := by omega
      rw [hcell j hj', nth_of (by rw [hlen]; exact hj)]
      simp [List.getD, hj', List.getElem_take]
    · rw [nth_of hj]
      exact hwz _ (List.mem_of_mem_take (List.getElem_mem hj))
theorem i64_bounds {n : Int} (h : (Lit.int .i64 n).wf = true) : -9223372036854775808 ≤ n ∧ n ≤ 9223372036854775807 := by
  simp [Lit.wf, IntKind.min, IntKind.max, IntKind.signed, IntKind.bits] at h
  omega
theorem Bs.form {w : World} {v : Value} {l : List Int} (h : Bs w v l) : ∃ a p c, v = .slice a p c := by
  obtain ⟨a, c, h⟩ := h.shape; exact ⟨a, _, c, h⟩
/-- What was appended to is as it was. -/
theorem Own.behind {w w' : World} {base m : Nat} {v v' : Value} {xs ys : List Int} (h : Own w base v xs) (h' : Own w' base v' (xs ++ ys)) (hg : Grew w v m v' w') : Own w' base v xs := by
  rcases hg with ⟨g, n, c, rfl, rfl, hg⟩ | ⟨_, hg⟩
  · have := h.slen
    subst this
    have := h'.pre (n := xs.length) (by rw [List.length_append]; omega)
    simpa using this
  · exact h.kept hg (by cases v.ownBlock <;> simp)
theorem Grew.grown {w w' : World} {m : Nat} {v v' : Value} (h : Grew w v m v' w') : w.grownBy w' v.ownBlock := by
  rcases h with ⟨g, n, c, rfl, rfl, hg⟩ | ⟨_, hg⟩
  · exact hg
  · exact ⟨hg.os, hg.tape, hg.output, hg.size, fun k hk _ => hg.block k hk (by simp)⟩
theorem step_append_two {w : World} {ops : Array Oper} {o : Oper} {a : Act} {K : Act → World → Prop} {Q : Exit → Act → World → Prop} {E : Prop} (hgd : Region.wanted o (yielded ops a.tmps) = true) (s x : Operand)
    (ho : o.op = .call { callee := .builtin .append, args := #[s, x], argTypes := #[42, 42] })
    (base : Nat) (v : Value) (xs : List Int) (hs : a.eval s = v) (hown : Own w base v xs) (u : Value) (ys : List Int) (hx : a.eval x = u) (hu : Bs w u ys) (hpos : 0 < ys.length)
    (hlen : xs.length + ys.length ≤ 140737488355328) (hbase : base ≤ w.heap.size)
    (h : ∀ v' w', Own w' base v' (xs ++ ys) → Grew w v ys.length v' w' → K (a.put o.dst v') w') :
    if Region.wanted o (yielded ops a.tmps) = true then Oper.wp Tryz.prog o a w K Q else E := by
  rw [if_pos hgd]
  obtain ⟨b, off, cap, rfl, -, -, -, cells⟩ := hu.at hpos
  obtain ⟨v', w', hrun, r1, r2⟩ := run_append_two w base o.type v xs hown ⟨b, off, none⟩ cap ys hpos (fun j hj => by rw [add_none]; exact cells j hj) hlen hbase
  unfold Oper.wp
  simp [execOp, ho, resolve, invoke, builtin, hs, hx, hrun, Result.andThen]
  exact h _ _ r1 r2
theorem wpList_append_want (w : World) {ops : Array Oper} {rest : List Oper} {o : Oper} {a : Act} {Q : Exit → Act → World → Prop} (hgd : Region.wanted o (yielded ops a.tmps) = true) (s x : Operand)
    (ho : o.op = .call { callee := .builtin .append, args := #[s, x], argTypes := #[42, 42] })
    (base : Nat) (v : Value) (xs : List Int) (hs : a.eval s = v) (hown : Own w base v xs) (u : Value) (ys : List Int) (hx : a.eval x = u) (hu : Bs w u ys) (hpos : 0 < ys.length)
    (hlen : xs.length + ys.length ≤ 140737488355328) (hbase : base ≤ w.heap.size)
    (h : ∀ v' w', Own w' base v' (xs ++ ys) → Grew w v ys.length v' w' → wpList Tryz.prog ops Q rest (a.put o.dst v') w') : wpList Tryz.prog ops Q (o :: rest) a w := by
  obtain ⟨b, off, cap, rfl, -, -, -, cells⟩ := hu.at hpos
  obtain ⟨v', w', hrun, r1, r2⟩ := run_append_two w base o.type v xs hown ⟨b, off, none⟩ cap ys hpos (fun j hj => by rw [add_none]; exact cells j hj) hlen hbase
  refine BigFrame.wpList_want hgd fun K hK' => ?_
  unfold Oper.wp
  simp [execOp, ho, resolve, invoke, builtin, hs, hx, hrun, Result.andThen]
  exact hK' _ _ (h v' w' r1 r2)
theorem splice_take {C : List Value} {xs ys : List Int} {off : Nat} (ht : C.take xs.length = bv xs) (hfit : off + ys.length ≤ xs.length) :
    (C.take off ++ (bv ys ++ C.drop (off + ys.length))).take xs.length = bv (xs.take off ++ ys ++ xs.drop (off + ys.length)) := by
  have e : C = bv xs ++ C.drop xs.length := by rw [← ht, List.take_append_drop]
  generalize C.drop xs.length = R at e
  subst e
  have hl := length_bv xs
  rw [show (bv xs ++ R).take off = (bv xs).take off from List.take_append_of_le_length (by omega), show (bv xs ++ R).drop (off + ys.length) = (bv xs).drop (off + ys.length) ++ R from List.drop_append_of_le_length (by omega)]
  have e2 : (bv xs).take off ++ (bv ys ++ ((bv xs).drop (off + ys.length) ++ R)) = bv (xs.take off ++ ys ++ xs.drop (off + ys.length)) ++ R := by
    simp [bv, List.map_take, List.map_drop]
  rw [e2, List.take_append_of_le_length (by simp [bv]; omega), List.take_of_length_le (by simp [bv]; omega)]
/-- copy into a row of the call's own. -/
theorem wpList_copy_bs {w : World} {ops : Array Oper} {rest : List Oper} {o : Oper} {a : Act} {Q : Exit → Act → World → Prop} (hgd : o.guard = none) (d s : Operand)
    (ho : o.op = .call { callee := .builtin .copy, args := #[d, s], argTypes := #[42, 42] })
    (base g n c off m dc : Nat) (xs : List Int) (hown : Own w base (.slice (some ⟨g, 0, none⟩) n c) xs) (hd : a.eval d = .slice (some ⟨g, off, none⟩) m dc) (u : Value) (ys : List Int) (hs : a.eval s = u) (hu : Bs w u ys) (hpos : 0 < ys.length)
    (hm : ys.length ≤ m) (hfit : off + ys.length ≤ xs.length)
    (h : ∀ w', Own w' base (.slice (some ⟨g, 0, none⟩) n c) (xs.take off ++ (ys ++ xs.drop (off + ys.length))) → w.grownBy w' (some g) → wpList Tryz.prog ops Q rest (a.put o.dst (goInt ys.length)) w') :
    wpList Tryz.prog ops Q (o :: rest) a w := by
  obtain rfl := hown.slen
  obtain ⟨i, hi, hz, hs1, hb1⟩ := u8info
  obtain ⟨b, so, sc, rfl, -, -, -, cells⟩ := hu.at hpos
  rcases hown.2 with ⟨h1, _⟩ | ⟨g', cap, cur, h1, hbg, hg, hnc, hcm, hcs, htake⟩
  · cases h1
  · cases h1
    rw [Nat.mul_one] at htake
    have hC : cur.toList.length = cur.size := by simp
    refine wpList_copy_own hgd d s 42 42 ho 5 Tryz.underlying42 (by rw [hi]; simp [hs1]) g off m dc ⟨b, so, none⟩ ys.length sc hd hs cur _ hg (bv ys) (by rw [length_bv]; exact (Nat.min_eq_left hm).symm)
      (fun j v hj => ?_) (by rw [length_bv]; omega) (bv_oneCell _) ?_
    · have hjl : j < ys.length := by
        have := (List.getElem?_eq_some_iff.1 hj).1
        simpa [bv] using this
      rw [bv_get hjl] at hj
      cases hj
      rw [add_none]
      exact cells j hjl
    · rw [length_bv]
      rw [← List.append_assoc] at h
      refine h _ ?_ ⟨rfl, rfl, rfl, by simp, fun k _ hk => setRow_other w g k _ (fun e => hk (by rw [e]))⟩
      have hlen : (xs.take off ++ ys ++ xs.drop (off + ys.length)).length = xs.length := by simp; omega
      unfold Own
      rw [hlen]
      refine ⟨by rw [length_bv, hlen]; omega, .inr ⟨g, c, _, rfl, hbg, setRow_heap w g cur _ 5 _ hg, hnc, hcm, ?_, ?_⟩⟩
      · simp [bv]; omega
      · rw [Nat.mul_one]
        exact splice_take htake hfit
theorem u8_wrapped (z : Int) : 0 ≤ IntKind.u8.wrap z ∧ IntKind.u8.wrap z < 256 := by rw [IntKind.wrap_u8]; omega
theorem cellA {w : World} {o : Obj} {b i : Nat} {v : Value} (h : w.cell? ⟨b, i, none⟩ = some v) : (w.alloc o).cell? ⟨b, i, none⟩ = some v :=
  ((alloc_below w o).cell (p := ⟨b, i, none⟩) (World.block_lt_of_cell? w _ h)).trans h
theorem cellP {w w' : World} {b i : Nat} {v : Value} (h : w.cell? ⟨b, i, none⟩ = some v) (hb : Below w.heap.size w w') : w'.cell? ⟨b, i, none⟩ = some v :=
  (hb.cell (p := ⟨b, i, none⟩) (World.block_lt_of_cell? w _ h)).trans h
theorem cellG {w w1 w' : World} {base b i : Nat} {u v : Value} {l : List Int} (h : w.cell? ⟨b, i, none⟩ = some v) (ho : Own w1 base u l) (hB : b < base) (hg : w.grownBy w' u.ownBlock) : w'.cell? ⟨b, i, none⟩ = some v :=
  hg.cell (a := ⟨b, i, none⟩) h (fun e => by have := (ho.lt b e.symm).1; omega)
theorem ownNe {w : World} {base B : Nat} {v : Value} {l : List Int} (h : Own w base v l) (hB : w.heap.size ≤ B) : v.ownBlock ≠ some B := fun e => by
  have := (h.lt _ e).2
  omega
theorem bel_app {wl W1 y2 w1 : World} {base : Nat} {v : Value} {xs : List Int} (h : Below wl.heap.size wl W1) (ho : Own w1 base v xs) (hb : wl.heap.size ≤ base) (hg : W1.grownBy y2 v.ownBlock) : Below wl.heap.size wl y2 :=
  h.grown hg h.size (fun k hk => Nat.le_trans hb (ho.lt k hk).1)
theorem bel_two {wl w : World} (h : Below wl.heap.size wl w) (o o' : Obj) : Below wl.heap.size wl ((w.alloc o).alloc o') := (h.alloc h.size o).alloc (by have := h.size; simp; omega) o'
theorem bel_past {wl w w' : World} (h : Below wl.heap.size wl w) (hb : Below w.heap.size w w') : Below wl.heap.size wl w' := h.trans (hb.mono h.size)
theorem drop_at {w : World} {g m cap n : Nat} {l : List Int} (h : Bs w (.slice (some ⟨g, 0, none⟩) m cap) l) (hn : n ≤ l.length) :
    (cap = n → Bs w (.slice (some ⟨g, 0, none⟩) (m - n) (cap - n)) (l.drop n)) ∧ (¬ cap = n → Bs w (.slice (some ⟨g, n, none⟩) (m - n) (cap - n)) (l.drop n)) := by
  have h1 := h.drop hn
  have hc : n ≤ cap := by obtain ⟨_, _, e, h1, _⟩ := h; injection e with _ _ e; omega
  refine ⟨fun e => ?_, fun e => ?_⟩
  · rw [if_pos (by omega)] at h1; exact h1
  · rw [if_neg (by omega)] at h1
    by_cases h0 : n = 0
    · subst h0; simpa [Addr.add] using h1
    · simpa [Addr.add, h0] using h1
end Go.Proofs.YthfkmackodbmkaaGreatDoor
