/- How bytes and an entry that came in are opened. -/
import Derived.Test.YtknkmblacaaegaaDoorKit
import Derived.ChangeSlices
import Derived.RowKit
import Derived.Lib.SmallJoins
namespace Go.Proofs.YtknkmblacaaegaaDoor
open Go.ChangeShapes Go.WideShapes Go.ChangeAt Go.RowKit
set_option linter.unusedVariables false
set_option maxRecDepth 100000

/-- Bytes that came in, from the cell that holds them. -/
theorem open_bs_cell {H : Type} {enc : TypeId × Value → H} {W : World} {base : Nat} {held : Bool} {fuel : Nat} {v : Value} {y : DataW H × List MemPlace}
    (h : DataW.trod enc Tryd.prog W base (fun _ => true) held fuel 22 [v] = some y) : ∃ l : List Int, Bs W v l := by
  rcases open_ints Tryd.underlying22 Tryd.underlying5 (by kernel_rfl) h with ⟨hcs, hx⟩ | ⟨a, len, cap, zs, hcs, _, hl, hm, hz, hx, hcell, hwz⟩
  · simp at hcs
    subst hcs
    exact ⟨[], Bs.nil W⟩
  · simp at hcs
    subst hcs
    simp only [if_true] at hz
    have hlen : (zs.take len).length = len := by rw [List.length_take]; omega
    refine ⟨zs.take len, some a, cap, by rw [hlen], by rw [hlen]; exact hl, hm, (by intro e; cases e), fun a' ha j hj => ?_⟩
    cases ha
    rw [hlen] at hj
    have hj' : j < zs.length := by omega
    rw [hcell j hj', nth_of (by rw [hlen]; exact hj)]
    simp [List.getD, hj', List.getElem_take]

theorem open_bs {H : Type} {enc : TypeId × Value → H} {W : World} {r : Reach} {b0 base : Nat} {held : Bool} {v : Value} {d : DataW H} {p : List MemPlace}
    (hval : Value.okWide Tryd.prog W r b0 22 v) (h : DataW.Trod enc Tryd.prog W base (fun _ => true) held 22 v d p) : ∃ l : List Int, Bs W v l := by
  obtain ⟨a, len, cap, rfl⟩ := okWide_slice Tryd.underlying22 hval
  obtain ⟨fuel, hf⟩ := h
  exact open_bs_cell (by simpa [Value.cells] using hf)

theorem array6 {α : Type} {cs : Array α} (h : cs.size = 6) : ∃ c0 c1 c2 c3 c4 c5, cs = #[c0, c1, c2, c3, c4, c5] := by
  obtain ⟨l⟩ := cs
  match l, h with
  | [c0, c1, c2, c3, c4, c5], _ => exact ⟨c0, c1, c2, c3, c4, c5, rfl⟩

theorem u8_bounds {n : Int} (h : (Lit.int .u8 n).wf = true) : 0 ≤ n ∧ n < 256 := by
  simp [Lit.wf, IntKind.min, IntKind.max, IntKind.signed, IntKind.bits] at h
  omega

/-- The entry's six cells, and what each holds. -/
theorem open_entry_cells {H : Type} {enc : TypeId × Value → H} {W : World} {base : Nat} {held : Bool} {fuel : Nat} {c0 c1 c2 c3 c4 c5 : Value} {x : DataW H × List MemPlace}
    (h : DataW.trod enc Tryd.prog W base (fun _ => true) held fuel 150 [c0, c1, c2, c3, c4, c5] = some x) :
    ∃ (t k v s : Int) (g : Bool) (l : List Int), c0 = .int .i64 t ∧ c1 = .int .u8 k ∧ c2 = .int .i64 v ∧ c3 = .int .i64 s ∧ c4 = .bool g ∧ Bs W c5 l ∧ 0 ≤ k ∧ k < 256 ∧
      (Lit.int .i64 t).wf = true ∧ (Lit.int .i64 v).wf = true ∧ (Lit.int .i64 s).wf = true := by
  obtain ⟨xs, n, _, rfl, hl, hlen, hf⟩ := DataW.trod_struct Tryd.underlying150 h
  match xs, hlen with
  | [y0, y1, y2, y3, y4, y5], _ =>
    have one : ∀ t, t = 3 ∨ t = 148 ∨ t = 4 ∨ t = 22 → Tryd.prog.cellsOf t = 1 := by
      rintro t (rfl | rfl | rfl | rfl) <;> kernel_rfl
    have h0 := hf 0 _ rfl
    have h1 := hf 1 _ rfl
    have h2 := hf 2 _ rfl
    have h3 := hf 3 _ rfl
    have h4 := hf 4 _ rfl
    have h5 := hf 5 _ rfl
    rw [one _ (by simp)] at h0 h1 h2 h3 h4 h5
    obtain ⟨t, e0, _, w0⟩ := DataW.trod_int Tryd.underlying3 h0
    obtain ⟨k, e1, _, w1⟩ := DataW.trod_int Tryd.underlying148 h1
    obtain ⟨v, e2, _, w2⟩ := DataW.trod_int Tryd.underlying3 h2
    obtain ⟨s, e3, _, w3⟩ := DataW.trod_int Tryd.underlying3 h3
    obtain ⟨g, e4, _⟩ := DataW.trod_bool Tryd.underlying4 h4
    obtain ⟨l, hb⟩ := open_bs_cell (v := c5) (y := y5) h5
    simp at e0 e1 e2 e3 e4
    exact ⟨t, k, v, s, g, l, e0, e1, e2, e3, e4, hb, (u8_bounds w1).1, (u8_bounds w1).2, w0, w2, w3⟩

theorem open_entry {H : Type} {enc : TypeId × Value → H} {W : World} {r : Reach} {b0 base : Nat} {held : Bool} {v : Value} {d : DataW H} {p : List MemPlace}
    (hval : Value.okWide Tryd.prog W r b0 150 v) (h : DataW.Trod enc Tryd.prog W base (fun _ => true) held 150 v d p) :
    ∃ (t k x s : Int) (g : Bool) (u : Value) (l : List Int), v = .agg #[.int .i64 t, .int .u8 k, .int .i64 x, .int .i64 s, .bool g, u] ∧ Bs W u l ∧ 0 ≤ k ∧ k < 256 ∧
      (Lit.int .i64 t).wf = true ∧ (Lit.int .i64 x).wf = true ∧ (Lit.int .i64 s).wf = true := by
  obtain ⟨cs, rfl, hsz⟩ := okWide_struct Tryd.underlying150 hval
  obtain ⟨c0, c1, c2, c3, c4, c5, rfl⟩ := array6 (hsz.trans (by kernel_rfl))
  obtain ⟨fuel, hf⟩ := h
  obtain ⟨t, k, x, s, g, l, rfl, rfl, rfl, rfl, rfl, hb, k0, k1, w0, w2, w3⟩ := open_entry_cells (c0 := c0) (c1 := c1) (c2 := c2) (c3 := c3) (c4 := c4) (c5 := c5) (by simpa [Value.cells] using hf)
  exact ⟨t, k, x, s, g, c5, l, rfl, hb, k0, k1, w0, w2, w3⟩
end Go.Proofs.YtknkmblacaaegaaDoor
