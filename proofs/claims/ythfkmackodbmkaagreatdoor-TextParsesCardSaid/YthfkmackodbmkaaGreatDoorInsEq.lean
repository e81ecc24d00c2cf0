/- Whether two instructions are one, and two words. -/
import Derived.Test.YthfkmackodbmkaaGreatDoorInsMem
import Derived.Laws.StructEq
namespace Go.Proofs.YthfkmackodbmkaaGreatDoor
open Go.RowKit
set_option linter.unusedVariables false
set_option linter.unusedSimpArgs false
set_option maxRecDepth 100000

theorem equalIn_ins (i j : Ins) (w : World) : (Op.equalIn 10000 47 (agg i) (agg j)).run Tryz.prog w = .ok (decide (i = j)) w := by
  obtain ⟨op, nw, dst, src, ui, off, im, sz⟩ := i
  obtain ⟨op', nw', dst', src', ui', off', im', sz'⟩ := j
  unfold agg
  rw [show (10000 : Nat) = 9999 + 1 from rfl, run_equalIn_agg w 9999 _ _ _ (by kernel_rfl) (by kernel_rfl)]
  simp [Program.fieldsOf, Tryz.underlying47, go_sem]
  by_cases c0 : op = op' <;> by_cases c1 : nw = nw' <;> by_cases c2 : dst = dst' <;> by_cases c3 : src = src' <;> by_cases c4 : ui = ui' <;> by_cases c5 : off = off' <;> by_cases c6 : im = im' <;> by_cases c7 : sz = sz' <;> simp [c0, c1, c2, c3, c4, c5, c6, c7]
theorem run_eql_ins (i j : Ins) (w : World) : (binOp .eql 47 (agg i) (agg j)).run Tryz.prog w = .ok (.bool (decide (i = j))) w := by
  unfold agg; rw [run_eql_struct]
  have := equalIn_ins i j w
  unfold agg at this; rw [this]; rfl
theorem run_neq_ins (i j : Ins) (w : World) : (binOp .neq 47 (agg i) (agg j)).run Tryz.prog w = .ok (.bool (!decide (i = j))) w := by
  unfold agg; rw [run_neq_struct]
  have := equalIn_ins i j w
  unfold agg at this; rw [this]; rfl
theorem guard_ins (op : BinOp) (x y : Operand) (i j : Ins) (w : World) : (eqGuard op 47 x y (agg i) (agg j)).run Tryz.prog w = .ok () w :=
  run_eqGuard_agg (P := Tryz.prog) (w := w) op 47 x y _ _ (by kernel_rfl)

/-- A word: the value of eight bytes. -/
def wagg (b : List Int) : Value := .agg #[.int .u8 (nth b 0), .int .u8 (nth b 1), .int .u8 (nth b 2), .int .u8 (nth b 3), .int .u8 (nth b 4), .int .u8 (nth b 5), .int .u8 (nth b 6), .int .u8 (nth b 7)]
theorem wagg_bv {b : List Int} (h : b.length = 8) : wagg b = .agg (bv b).toArray := by
  match b, h with
  | [b0, b1, b2, b3, b4, b5, b6, b7], _ => rfl
/-- Whether two arrays are one: byte by byte. -/
theorem items_eq (d : Nat) (w : World) (xs ys : List Int) (hl : xs.length = ys.length) : ∀ (m k : Nat), k + m = xs.length →
    (Op.eqItems (d + 1) 5 1 (bv xs).toArray (bv ys).toArray (List.range' k m)).run Tryz.prog w = .ok (decide (xs.drop k = ys.drop k)) w
  | 0, k, h => by
    rw [List.drop_of_length_le (by omega), List.drop_of_length_le (by omega)]
    simp [Op.eqItems]
  | m + 1, k, h => by
    have hx : k < xs.length := by omega
    have hy : k < ys.length := by omega
    have p1 : (_root_.Go.part 5 (bv xs).toArray (k * 1)).run Tryz.prog w = .ok (.int .u8 xs[k]) w := run_part_plain w (by kernel_rfl) (by simp [bv, hx])
    have p2 : (_root_.Go.part 5 (bv ys).toArray (k * 1)).run Tryz.prog w = .ok (.int .u8 ys[k]) w := run_part_plain w (by kernel_rfl) (by simp [bv, hy])
    have hq : (Op.equalIn (d + 1) 5 (.int .u8 xs[k]) (.int .u8 ys[k])).run Tryz.prog w = .ok (xs[k] == ys[k]) w := by
      simp [Op.equalIn, run_underlying Tryz.underlying5]
    rw [List.range'_succ, Op.eqItems]
    simp only [Sem.run_bind, p1, p2, hq, Result.andThen_ok]
    have dx := List.drop_eq_getElem_cons hx
    have dy := List.drop_eq_getElem_cons hy
    by_cases e : xs[k] = ys[k]
    · have ih := items_eq d w xs ys hl m (k + 1) (by omega)
      have hd : decide (xs.drop k = ys.drop k) = decide (xs.drop (k + 1) = ys.drop (k + 1)) := by
        rw [decide_eq_decide]
        constructor
        · intro h; rw [dx, dy] at h; exact (List.cons.inj h).2
        · intro h; rw [dx, dy, e, h]
      rw [hd]
      simp [e, ih]
    · have hd : decide (xs.drop k = ys.drop k) = false := by
        refine decide_eq_false fun h => e ?_
        rw [dx, dy] at h; exact (List.cons.inj h).1
      rw [hd]
      simp [e]

/-- .. as operations: in a region that draws, and elsewhere. -/
theorem step_cmp {w : World} {ops : Array Oper} {o : Oper} {a : Act} {K : Act → World → Prop} {Q : Exit → Act → World → Prop} {E : Prop} (hgd : Region.wanted o (yielded ops a.tmps) = true) (op : BinOp) (ty rt : TypeId) (x y : Operand) (ho : o.op = .binOp op ty x y rt)
    (u v : Value) (r : Bool) (hx : a.eval x = u) (hy : a.eval y = v) (hg : (eqGuard op ty x y u v).run Tryz.prog w = .ok () w) (hr : (binOp op ty u v).run Tryz.prog w = .ok (.bool r) w) (h : K (a.put o.dst (.bool r)) w) :
    if Region.wanted o (yielded ops a.tmps) = true then Oper.wp Tryz.prog o a w K Q else E := by
  rw [if_pos hgd]
  unfold Oper.wp
  simp only [execOp, ho, hx, hy, Sem.run_bind, hg, hr, Result.andThen_ok, Sem.run_pure, Oper.upon_value]
  exact h
theorem wpList_cmp {w : World} {ops : Array Oper} {rest : List Oper} {o : Oper} {a : Act} {Q : Exit → Act → World → Prop} (hgd : o.guard = none) (op : BinOp) (ty rt : TypeId) (x y : Operand) (ho : o.op = .binOp op ty x y rt)
    (u v : Value) (r : Bool) (hx : a.eval x = u) (hy : a.eval y = v) (hg : (eqGuard op ty x y u v).run Tryz.prog w = .ok () w) (hr : (binOp op ty u v).run Tryz.prog w = .ok (.bool r) w)
    (h : wpList Tryz.prog ops Q rest (a.put o.dst (.bool r)) w) : wpList Tryz.prog ops Q (o :: rest) a w := by
  refine wpList_plain hgd fun K hK' => ?_
  unfold Oper.wp
  simp only [execOp, ho, hx, hy, Sem.run_bind, hg, hr, Result.andThen_ok, Sem.run_pure, Oper.upon_value]
  exact hK' _ _ h
/-- .. for the walk. -/
def same8 (op : Int) (nw : Bool) (dst src : Int) (ui : Bool) (off im sz op' : Int) (nw' : Bool) (dst' src' : Int) (ui' : Bool) (off' im' sz' : Int) : Bool := decide ((⟨op, nw, dst, src, ui, off, im, sz⟩ : Ins) = ⟨op', nw', dst', src', ui', off', im', sz'⟩)
theorem eql_cells (op : Int) (nw : Bool) (dst src : Int) (ui : Bool) (off im sz op' : Int) (nw' : Bool) (dst' src' : Int) (ui' : Bool) (off' im' sz' : Int) (w : World) :
    (binOp .eql 47 (.agg #[.int .u8 op, .bool nw, .int .i64 dst, .int .i64 src, .bool ui, .int .i64 off, .int .i64 im, .int .i64 sz]) (.agg #[.int .u8 op', .bool nw', .int .i64 dst', .int .i64 src', .bool ui', .int .i64 off', .int .i64 im', .int .i64 sz'])).run Tryz.prog w
      = .ok (.bool (same8 op nw dst src ui off im sz op' nw' dst' src' ui' off' im' sz')) w := run_eql_ins ⟨op, nw, dst, src, ui, off, im, sz⟩ ⟨op', nw', dst', src', ui', off', im', sz'⟩ w
theorem neq_cells (op : Int) (nw : Bool) (dst src : Int) (ui : Bool) (off im sz op' : Int) (nw' : Bool) (dst' src' : Int) (ui' : Bool) (off' im' sz' : Int) (w : World) :
    (binOp .neq 47 (.agg #[.int .u8 op, .bool nw, .int .i64 dst, .int .i64 src, .bool ui, .int .i64 off, .int .i64 im, .int .i64 sz]) (.agg #[.int .u8 op', .bool nw', .int .i64 dst', .int .i64 src', .bool ui', .int .i64 off', .int .i64 im', .int .i64 sz'])).run Tryz.prog w
      = .ok (.bool (!same8 op nw dst src ui off im sz op' nw' dst' src' ui' off' im' sz')) w := run_neq_ins ⟨op, nw, dst, src, ui, off, im, sz⟩ ⟨op', nw', dst', src', ui', off', im', sz'⟩ w
theorem same8_self (op : Int) (nw : Bool) (dst src : Int) (ui : Bool) (off im sz : Int) : same8 op nw dst src ui off im sz op nw dst src ui off im sz = true := by simp [same8]
theorem same8_of (i j : Ins) : same8 i.op i.nw i.dst i.src i.ui i.off i.im i.sz j.op j.nw j.dst j.src j.ui j.off j.im j.sz = decide (i = j) := rfl
def sameW (a b : List Int) : Bool := decide (a = b)
end Go.Proofs.YthfkmackodbmkaaGreatDoor
