/- Blocks of eight cells: instructions, and their bytes as arrays. -/
import Derived.Test.YthfkmackodbmkaaGreatDoorTools0
import Derived.Test.YthfkmackodbmkaaGreatDoorInsMath
namespace Go.Proofs.YthfkmackodbmkaaGreatDoor
open Go.RowKit
set_option linter.unusedVariables false
set_option linter.unusedSimpArgs false

def icells (i : Ins) : List Value := [.int .u8 i.op, .bool i.nw, .int .i64 i.dst, .int .i64 i.src, .bool i.ui, .int .i64 i.off, .int .i64 i.im, .int .i64 i.sz]
def agg (i : Ins) : Value := .agg #[.int .u8 i.op, .bool i.nw, .int .i64 i.dst, .int .i64 i.src, .bool i.ui, .int .i64 i.off, .int .i64 i.im, .int .i64 i.sz]
/-- Block b holds these eight cells. -/
def Oc (w : World) (t : TypeId) (b : Nat) (c0 c1 c2 c3 c4 c5 c6 c7 : Value) : Prop := w.heap[b]? = some (.cells #[c0, c1, c2, c3, c4, c5, c6, c7] t (0, 0))
section
variable {w w' : World} {t : TypeId} {b : Nat} {c0 c1 c2 c3 c4 c5 c6 c7 : Value}
theorem Oc.cells (h : Oc w t b c0 c1 c2 c3 c4 c5 c6 c7) : w.cell? ⟨b, 0, none⟩ = some c0 ∧ w.cell? ⟨b, 1, none⟩ = some c1 ∧ w.cell? ⟨b, 2, none⟩ = some c2 ∧ w.cell? ⟨b, 3, none⟩ = some c3 ∧ w.cell? ⟨b, 4, none⟩ = some c4 ∧ w.cell? ⟨b, 5, none⟩ = some c5 ∧ w.cell? ⟨b, 6, none⟩ = some c6 ∧ w.cell? ⟨b, 7, none⟩ = some c7 := by
  refine ⟨?_, ?_, ?_, ?_, ?_, ?_, ?_, ?_⟩ <;> (rw [cell_of_row w b _ _ _ _ h]; rfl)
theorem Oc.free (h : Oc w t b c0 c1 c2 c3 c4 c5 c6 c7) (i : Nat) : w.frozen? ⟨b, i, none⟩ = false := by
  simp [World.frozen?, show w.heap[b]? = _ from h]
theorem Oc.lt (h : Oc w t b c0 c1 c2 c3 c4 c5 c6 c7) : b < w.heap.size := (Array.getElem?_eq_some_iff.1 h).1
theorem Oc.keep {row : Option Nat} (h : Oc w t b c0 c1 c2 c3 c4 c5 c6 c7) (hg : w.grownBy w' row) (hne : row = some b → False) : Oc w' t b c0 c1 c2 c3 c4 c5 c6 c7 :=
  (hg.block b h.lt (fun e => hne e.symm)).trans h
theorem Oc.past (h : Oc w t b c0 c1 c2 c3 c4 c5 c6 c7) (hb : Below w.heap.size w w') : Oc w' t b c0 c1 c2 c3 c4 c5 c6 c7 := (hb.block b h.lt).trans h
theorem Oc.below {B : Nat} (h : Oc w t b c0 c1 c2 c3 c4 c5 c6 c7) (hb : Below B w w') (hB : b < B) : Oc w' t b c0 c1 c2 c3 c4 c5 c6 c7 := (hb.block b hB).trans h
theorem Oc.alloc (h : Oc w t b c0 c1 c2 c3 c4 c5 c6 c7) (o : Obj) : Oc (w.alloc o) t b c0 c1 c2 c3 c4 c5 c6 c7 := h.keep (World.grownBy_alloc w o none) (fun e => by cases e)
theorem oc_new (w : World) (t : TypeId) (c0 c1 c2 c3 c4 c5 c6 c7 : Value) : Oc (w.alloc (Obj.cells #[c0, c1, c2, c3, c4, c5, c6, c7] t)) t w.heap.size c0 c1 c2 c3 c4 c5 c6 c7 := heap_alloc_new w _
theorem Oc.set0 (h : Oc w t b c0 c1 c2 c3 c4 c5 c6 c7) (u : Value) : Oc (w.setCell ⟨b, 0, none⟩ u) t b u c1 c2 c3 c4 c5 c6 c7 := by
  unfold Oc at h ⊢; simp only [World.setCell, Array.getElem?_modify, h]; simp
theorem Oc.set1 (h : Oc w t b c0 c1 c2 c3 c4 c5 c6 c7) (u : Value) : Oc (w.setCell ⟨b, 1, none⟩ u) t b c0 u c2 c3 c4 c5 c6 c7 := by
  unfold Oc at h ⊢; simp only [World.setCell, Array.getElem?_modify, h]; simp
theorem Oc.set2 (h : Oc w t b c0 c1 c2 c3 c4 c5 c6 c7) (u : Value) : Oc (w.setCell ⟨b, 2, none⟩ u) t b c0 c1 u c3 c4 c5 c6 c7 := by
  unfold Oc at h ⊢; simp only [World.setCell, Array.getElem?_modify, h]; simp
theorem Oc.set3 (h : Oc w t b c0 c1 c2 c3 c4 c5 c6 c7) (u : Value) : Oc (w.setCell ⟨b, 3, none⟩ u) t b c0 c1 c2 u c4 c5 c6 c7 := by
  unfold Oc at h ⊢; simp only [World.setCell, Array.getElem?_modify, h]; simp
theorem Oc.set4 (h : Oc w t b c0 c1 c2 c3 c4 c5 c6 c7) (u : Value) : Oc (w.setCell ⟨b, 4, none⟩ u) t b c0 c1 c2 c3 u c5 c6 c7 := by
  unfold Oc at h ⊢; simp only [World.setCell, Array.getElem?_modify, h]; simp
theorem Oc.set5 (h : Oc w t b c0 c1 c2 c3 c4 c5 c6 c7) (u : Value) : Oc (w.setCell ⟨b, 5, none⟩ u) t b c0 c1 c2 c3 c4 u c6 c7 := by
  unfold Oc at h ⊢; simp only [World.setCell, Array.getElem?_modify, h]; simp
theorem Oc.set6 (h : Oc w t b c0 c1 c2 c3 c4 c5 c6 c7) (u : Value) : Oc (w.setCell ⟨b, 6, none⟩ u) t b c0 c1 c2 c3 c4 c5 u c7 := by
  unfold Oc at h ⊢; simp only [World.setCell, Array.getElem?_modify, h]; simp
theorem Oc.set7 (h : Oc w t b c0 c1 c2 c3 c4 c5 c6 c7) (u : Value) : Oc (w.setCell ⟨b, 7, none⟩ u) t b c0 c1 c2 c3 c4 c5 c6 u := by
  unfold Oc at h ⊢; simp only [World.setCell, Array.getElem?_modify, h]; simp
end
/-- Eight cells are written into a block. -/
def wrote (w : World) (b : Nat) (c0 c1 c2 c3 c4 c5 c6 c7 : Value) : World := ((((((((w.setCell ⟨b, 0, none⟩ c0).setCell ⟨b, 1, none⟩ c1).setCell ⟨b, 2, none⟩ c2).setCell ⟨b, 3, none⟩ c3).setCell ⟨b, 4, none⟩ c4).setCell ⟨b, 5, none⟩ c5).setCell ⟨b, 6, none⟩ c6).setCell ⟨b, 7, none⟩ c7)
theorem wrote_oc {w : World} {t : TypeId} {b : Nat} {d0 d1 d2 d3 d4 d5 d6 d7 : Value} (h : Oc w t b d0 d1 d2 d3 d4 d5 d6 d7) (c0 c1 c2 c3 c4 c5 c6 c7 : Value) : Oc (wrote w b c0 c1 c2 c3 c4 c5 c6 c7) t b c0 c1 c2 c3 c4 c5 c6 c7 := ((((((((h.set0 c0).set1 c1).set2 c2).set3 c3).set4 c4).set5 c5).set6 c6).set7 c7)
theorem wrote_below {w w1 : World} {b B : Nat} (h : Below B w w1) (hb : B ≤ b) (c0 c1 c2 c3 c4 c5 c6 c7 : Value) : Below B w (wrote w1 b c0 c1 c2 c3 c4 c5 c6 c7) := by
  unfold wrote
  exact ((((((((h.setCell (p := ⟨b, 0, none⟩) hb c0).setCell (p := ⟨b, 1, none⟩) hb c1).setCell (p := ⟨b, 2, none⟩) hb c2).setCell (p := ⟨b, 3, none⟩) hb c3).setCell (p := ⟨b, 4, none⟩) hb c4).setCell (p := ⟨b, 5, none⟩) hb c5).setCell (p := ⟨b, 6, none⟩) hb c6).setCell (p := ⟨b, 7, none⟩) hb c7)
theorem wrote_other {w : World} {b k : Nat} (hk : k ≠ b) (c0 c1 c2 c3 c4 c5 c6 c7 : Value) : (wrote w b c0 c1 c2 c3 c4 c5 c6 c7).heap[k]? = w.heap[k]? := by
  unfold wrote
  simp [World.setCell, Array.getElem?_modify, Ne.symm hk]
theorem wrote_size (w : World) (b : Nat) (c0 c1 c2 c3 c4 c5 c6 c7 : Value) : (wrote w b c0 c1 c2 c3 c4 c5 c6 c7).heap.size = w.heap.size := by simp [wrote, World.setCell]
/-- Block b holds an instruction. -/
def OcI (w : World) (b : Nat) (i : Ins) : Prop := Oc w 47 b (.int .u8 i.op) (.bool i.nw) (.int .i64 i.dst) (.int .i64 i.src) (.bool i.ui) (.int .i64 i.off) (.int .i64 i.im) (.int .i64 i.sz)
end Go.Proofs.YthfkmackodbmkaaGreatDoor
