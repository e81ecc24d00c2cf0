/- Contracts of what is lent: bytes with marks behind them, whether they and the marks are kept, and written over. -/
import Derived.Test.YthfkmackodbmkaaGreatDoorBase
import Derived.Tactics2
import Derived.Deep.QuietTactic
import Derived.BigQuiet
namespace Go.Proofs.YthfkmackodbmkaaGreatDoor
open Go.RowKit
set_option linter.unusedVariables false

/-- The first n marks of kind k. -/
def marks (k : Int) (n : Nat) : List Int := (List.range n).map fun i : Nat => mkb k (i : Int)
theorem marks_length (k : Int) (n : Nat) : (marks k n).length = n := by simp [marks]
theorem marks_succ (k : Int) (n : Nat) : marks k (n + 1) = marks k n ++ [mkb k n] := by simp [marks, List.range_succ]
theorem marks_oct (k : Int) (n : Nat) : Oct (marks k n) := by
  intro x hx
  simp only [marks, List.mem_map] at hx
  obtain ⟨i, _, rfl⟩ := hx
  exact mkb_oct k i
theorem nth_marks {k : Int} {n j : Nat} (h : j < n) : nth (marks k n) j = mkb k j := by
  rw [nth_of (by rw [marks_length]; exact h)]; simp [marks]

/-- v is the bytes l, lent: in a block of their own from base on, with twelve marks behind them. -/
def Lent (w : World) (base : Nat) (v : Value) (l : List Int) : Prop :=
  ∃ g, v = .slice (some ⟨g, 0, none⟩) l.length (l.length + 12) ∧ base ≤ g ∧ l.length + 12 ≤ maxLen ∧ w.heap[g]? = some (.cells (bv (l ++ marks 1 12)).toArray 5 (0, 0))

theorem row_cell {w : World} {g : Nat} {l : List Int} {e : Nat} {fr : Nat × Nat} (h : w.heap[g]? = some (.cells (bv l).toArray e fr)) {j : Nat} (hj : j < l.length) : w.cell? ⟨g, j, none⟩ = some (.int .u8 (nth l j)) := by
  rw [cell_of_row w g j _ _ _ h]
  have := bv_get hj
  simpa using this
theorem Lent.bs {w : World} {base : Nat} {v : Value} {l : List Int} (h : Lent w base v l) : Bs w v l := by
  obtain ⟨g, rfl, _, hm, hg⟩ := h
  refine Bs.mk (by omega) hm fun j hj => ?_
  rw [Nat.zero_add, row_cell hg (by simp; omega), nth_append_left hj]
theorem Lent.below {w w' : World} {base B : Nat} {v : Value} {l : List Int} (h : Lent w base v l) (hb : Below B w w') (hB : w.heap.size ≤ B) : Lent w' base v l := by
  obtain ⟨g, hv, h1, h2, hg⟩ := h
  have := (Array.getElem?_eq_some_iff.1 hg).1
  exact ⟨g, hv, h1, h2, (hb.block g (by omega)).trans hg⟩
theorem Lent.past {w w' : World} {base : Nat} {v : Value} {l : List Int} (h : Lent w base v l) (hb : Below w.heap.size w w') : Lent w' base v l := h.below hb (Nat.le_refl _)
theorem own_full {w : World} {base g n : Nat} {l : List Int} (h : Own w base (.slice (some ⟨g, 0, none⟩) n l.length) l) : base ≤ g ∧ w.heap[g]? = some (.cells (bv l).toArray 5 (0, 0)) := by
  rcases h.2 with ⟨h1, _⟩ | ⟨g', cap, cur, h1, hb, hg, hn, hc, hs, ht⟩
  · cases h1
  · cases h1
    refine ⟨hb, ?_⟩
    have : cur = (bv l).toArray := by
      rw [← ht, List.take_of_length_le (by simp; omega)]
    rw [← this]; exact hg

/-- e returns them lent; what was there is as it was. -/
def Lends (l : List Int) (w : World) (e : Ending) (w' : World) : Prop := ∃ v, e = .returned v ∧ Lent w' w.heap.size v l ∧ Below w.heap.size w w'

set_option maxHeartbeats 1000000 in
set_option maxRecDepth 100000 in

set_option maxHeartbeats 2000000 in
set_option maxRecDepth 100000 in

/-- Block g is a row of n bytes. -/
def RowOf (w : World) (g n : Nat) : Prop := ∃ cur, w.heap[g]? = some (.cells cur 5 (0, 0)) ∧ cur.size = n
theorem RowOf.cell {w : World} {g n j : Nat} (h : RowOf w g n) (hj : j < n) : ∃ x, w.cell? ⟨g, j, none⟩ = some x := by
  obtain ⟨cur, hg, hs⟩ := h
  exact ⟨cur[j]'(by omega), by rw [cell_of_row w g j _ _ _ hg]; simp [hs, hj]⟩
theorem RowOf.free {w : World} {g n : Nat} (h : RowOf w g n) (j : Nat) : w.frozen? ⟨g, j, none⟩ = false := by
  obtain ⟨cur, hg, hs⟩ := h
  simp [World.frozen?, hg]
theorem RowOf.set {w : World} {g n : Nat} (h : RowOf w g n) (j : Nat) (u : Value) : RowOf (w.setCell ⟨g, j, none⟩ u) g n := by
  obtain ⟨cur, hg, hs⟩ := h
  refine ⟨cur.setIfInBounds j u, ?_, by simp [hs]⟩
  simp only [World.setCell, Array.getElem?_modify, hg]
  simp

theorem Lent.row {w : World} {base : Nat} {v : Value} {l : List Int} (h : Lent w base v l) : ∃ g, v = .slice (some ⟨g, 0, none⟩) l.length (l.length + 12) ∧ base ≤ g ∧ g < w.heap.size ∧ RowOf w g (l.length + 12) := by
  obtain ⟨g, hv, hb, _, hg⟩ := h
  exact ⟨g, hv, hb, (Array.getElem?_eq_some_iff.1 hg).1, _, hg, by simp [length_bv, marks_length]⟩
end Go.Proofs.YthfkmackodbmkaaGreatDoor
