/- What the layer's rows have of their conditions: the table that is laid, the frames that came in. -/
import Derived.Test.YtkiagnlpnphghaaDoorFrLaw1
import Derived.Test.YtkiagnlpnphghaaDoorRows
import Derived.Lib.LaidTab
import Derived.MakeChecks
import Derived.LaidMore
import Derived.Deep.Slices
import Derived.ProofKit
namespace Go.Proofs.YtkiagnlpnphghaaDoor
open Go.ChangeShapes Go.WideShapes Go.ChangeAt Go.RowKit
set_option linter.unusedVariables false
set_option linter.unusedSimpArgs false
set_option maxRecDepth 100000

/-- The variable that the rows list. -/
def listed : List (String × DataW Unit) := [("barbican/frame.fourShifts", Rows.laid_barbican_frame_fourShifts)]
theorem gTab : Tryd.prog.globalNamed "barbican/frame.fourShifts" = some 0 := by kernel_rfl
theorem gTabType : (Tryd.prog.globals[0]?).map (·.type) = some 113 := by kernel_rfl
theorem door_met (os : Os) (args : Array Value) : laidMetH Tryd.prog listed ((World.doorLaid Tryd.prog 400 os).forCall (fun _ _ => 0) ⟨#[], args, []⟩).memory :=
  laidMetH_of_parts3 (fuel := 8) (laidMet_of_run' 8 (by kernel_rfl) (by kernel_rfl)) (by kernel_rfl) (by kernel_rfl)
theorem tab_of_laid {W : World} (h : laidMetH Tryd.prog listed W) : Tab W := by
  rw [MakeChecks.laidMetH_plain _ _ _ (by kernel_rfl)] at h
  have hT : Lib.TabIs Tryd.prog W "barbican/frame.fourShifts" .u32 ((List.range 16).map fun i => (fourSteps i : Int)) :=
    Lib.tabIs_of_head (rest := []) gTab gTabType Tryd.underlying113 Tryd.underlying40 (by kernel_rfl) (by kernel_rfl) (show laidMet Tryd.prog [("barbican/frame.fourShifts", Lib.tabData .u32 ((List.range 16).map fun i => (fourSteps i : Int)))] W from h)
  have hc : ∀ i, i < 16 → W.cell? ⟨0, i, none⟩ = some (.int .u32 (fourSteps i : Nat)) := fun i hi => by
    rw [hT.cell gTab i (by simpa using hi)]
    simp [List.getD, hi]
  exact ⟨World.block_lt_of_cell? W _ (hc 0 (by decide)), hc⟩

/-- Bytes that came in, from the cell that holds them; they are within the reach. -/
theorem open_bs_cell3 {H : Type} {enc : TypeId × Value → H} {W : World} {base : Nat} {held : Bool} {fuel : Nat} {v : Value} {y : DataW H × List MemPlace}
    (h : DataW.trod enc Tryd.prog W base (fun _ => true) held fuel 27 [v] = some y) : ∃ l : List Int, Bs W v l ∧ Oct l ∧ ((∀ n ∈ y.1.weights Tryd.prog 27, n ≤ reachBytes) → l.length ≤ 140737488351232) := by
  rcases open_ints Tryd.underlying27 Tryd.underlying5 (by kernel_rfl) h with ⟨hcs, hx⟩ | ⟨a, len, cap, zs, hcs, _, hl, hm, hz, hx, hcell, hwz⟩
  · simp at hcs
    subst hcs
    exact ⟨[], Bs.nil W, Oct.nil, fun _ => Nat.zero_le _⟩
  · simp at hcs
    subst hcs
    simp only [if_true] at hz
    have hlen : (zs.take len).length = len := by rw [List.length_take]; omega
    refine ⟨zs.take len, ⟨some a, cap, by rw [hlen], by rw [hlen]; exact hl, hm, (by intro e; cases e), fun a' ha j hj => ?_⟩, fun n hn => u8_bounds (hwz n (List.mem_of_mem_take hn)), fun hw => ?_⟩
    · cases ha
      rw [hlen] at hj
      have hj' : j < zs.length := by omega
      rw [hcell j hj', nth_of (by rw [hlen]; exact hj)]
      simp [List.getD, hj', List.getElem_take]
    · have hb : Tryd.prog.bytesOf 5 = 1 := by kernel_rfl
      have := hw ((lits (H := H) .u8 (zs.take len)).length + (lits (H := H) .u8 (zs.drop len)).length) (by
        rw [hx]
        simp [DataW.weights, Tryd.underlying27, hb])
      simp [lits] at this
      unfold reachBytes at this
      rw [hlen]; omega

/-- A drawn frame's two cells. -/
theorem open_one_cells {H : Type} {enc : TypeId × Value → H} {W : World} {base : Nat} {held : Bool} {fuel : Nat} {c0 c1 : Value} {x : DataW H × List MemPlace}
    (h : DataW.trod enc Tryd.prog W base (fun _ => true) held fuel 37 [c0, c1] = some x) :
    ∃ (k : Int) (l : List Int), c0 = .int .i64 k ∧ Bs W c1 l ∧ Oct l ∧ ((∀ n ∈ x.1.weights Tryd.prog 37, n ≤ reachBytes) → l.length ≤ 140737488351232) := by
  obtain ⟨xs, n, _, rfl, hl, hlen, hf⟩ := DataW.trod_struct Tryd.underlying37 h
  match xs, hlen with
  | [y0, y1], _ =>
    have one : ∀ t, t = 3 ∨ t = 27 → Tryd.prog.cellsOf t = 1 := by
      rintro t (rfl | rfl) <;> kernel_rfl
    have h0 := hf 0 _ rfl
    have h1 := hf 1 _ rfl
    rw [one _ (by simp)] at h0 h1
    obtain ⟨k, e0, _, w0⟩ := DataW.trod_int Tryd.underlying3 h0
    obtain ⟨l, hb, hoct, hw⟩ := open_bs_cell3 (v := c1) (y := y1) h1
    simp at e0
    refine ⟨k, l, e0, hb, hoct, fun hall => hw fun n hn => hall n ?_⟩
    simp only [List.map_cons, List.map_nil, DataW.weights, Tryd.underlying37]
    exact DataW.weights_mem_each (j := 1) (t := 27) (d := y1.1) rfl rfl n hn

theorem weights_all {H : Type} {P : Program} {e : TypeId} : ∀ {ds : List (DataW H)} {j : Nat} {d : DataW H}, ds[j]? = some d → ∀ n ∈ d.weights P e, n ∈ DataW.weightsAll P e ds
  | d0 :: ds, 0, d, hd, n, hn => by
    simp only [List.getElem?_cons_zero, Option.some.injEq] at hd
    subst hd
    simp only [DataW.weightsAll, List.mem_append]
    exact Or.inl hn
  | d0 :: ds, j + 1, d, hd, n, hn => by
    simp only [List.getElem?_cons_succ] at hd
    simp only [DataW.weightsAll, List.mem_append]
    exact Or.inr (weights_all hd n hn)
  | [], _, _, hd, _, _ => by simp at hd

/-- Frames that came in. -/
theorem open_ones {H : Type} {enc : TypeId × Value → H} {W : World} {r : Reach} {b0 base : Nat} {held : Bool} {v : Value} {d : DataW H} {p : List MemPlace} {ts : List TypeId} {ds : List (DataW H)} {j : Nat}
    (hval : Value.okWide Tryd.prog W r b0 22 v) (h : DataW.Trod enc Tryd.prog W base (fun _ => true) held 22 v d p)
    (hsz : (DataW.weightsEach Tryd.prog ts ds).all (· ≤ reachBytes) = true) (ht : ts[j]? = some 22) (hd : ds[j]? = some d) : ∃ fs vs, Frs W v vs fs ∧ Octs fs ∧ Short fs := by
  have hall : ∀ n ∈ d.weights Tryd.prog 22, n ≤ reachBytes := fun n hn => by
    simpa using List.all_eq_true.1 hsz _ (DataW.weights_mem_each ht hd n hn)
  obtain ⟨a, len, cap, rfl⟩ := okWide_slice Tryd.underlying22 hval
  obtain ⟨fuel, hf⟩ := h
  have hf : DataW.trod enc Tryd.prog W base (fun _ => true) held fuel 22 [.slice a len cap] = some (d, p) := by simpa [Value.cells] using hf
  have hC : Tryd.prog.cellsOf 37 = 2 := by kernel_rfl
  rcases Go.Deep.open_slice Tryd.underlying22 hf with ⟨hcs, hx⟩ | ⟨a', len', cap', m, n, D, Pl, hcs, _, hl, hm, hmm, hx, hel⟩
  · simp at hcs
    obtain ⟨rfl, rfl, rfl⟩ := hcs
    exact ⟨[], [], ⟨rfl, Or.inl ⟨rfl, none, 0, rfl⟩⟩, (fun f hf => by cases hf), (fun f hf => by cases hf)⟩
  · simp at hcs
    obtain ⟨rfl, rfl, rfl⟩ := hcs
    simp only [if_true] at hmm
    obtain ⟨b, off, sp⟩ := a'
    by_cases h0 : len = 0
    · subst h0
      exact ⟨[], [], ⟨rfl, Or.inl ⟨rfl, _, cap, rfl⟩⟩, (fun f hf => by cases hf), (fun f hf => by cases hf)⟩
    · obtain ⟨hs, hbW⟩ : sp = none ∧ b < W.heap.size := by
        obtain ⟨cs', h1, h2⟩ := hel 0 (by omega)
        rw [hC] at h1
        obtain ⟨_, hlen, hat⟩ := World.cells?_some h1
        have h0 := hat 0 (by omega)
        rw [List.getElem?_eq_getElem (by omega)] at h0
        exact ⟨by simpa [Addr.add] using World.cell?_spot h0, by simpa [Addr.add] using World.block_lt_of_cell? W _ h0⟩
      subst hs
      have hD : ∀ j, j < len → ∀ n ∈ (D j).weights Tryd.prog 37, n ≤ reachBytes := fun j hj n hn => hall n (by
        have e := (Prod.ext_iff.1 hx).1
        simp only at e
        rw [e]
        simp only [DataW.weights, Tryd.underlying22, List.mem_cons, List.mem_append]
        exact Or.inr (Or.inl (weights_all (j := j) (d := D j) (by simp [hj]) n hn)))
      have key : ∀ j, j < len → ∃ fu : Fr × Value, FrAt W b (off + j * 2) fu.1 fu.2 ∧ Oct fu.1.2 ∧ fu.1.2.length ≤ 140737488351232 := fun j hj => by
        obtain ⟨cs', h1, h2⟩ := hel j (by omega)
        rw [hC] at h1
        obtain ⟨_, hlen, hat⟩ := World.cells?_some h1
        match cs', hlen with
        | [c0, c1], _ =>
          obtain ⟨k, l, rfl, hb, hoct, hw⟩ := open_one_cells h2
          have e : ∀ i, ((⟨b, off, none⟩ : Addr).add (j * 2)).add i = ⟨b, off + j * 2 + i, none⟩ := fun i => by rw [add_none, add_none]
          have h0 := hat 0 (by omega)
          have h1 := hat 1 (by omega)
          rw [e] at h0 h1
          exact ⟨((k, l), c1), ⟨h0, h1, hb⟩, hoct, hw (hD j hj)⟩
      obtain ⟨F, hF⟩ : ∃ F : Nat → Fr × Value, ∀ j, j < len → FrAt W b (off + j * 2) (F j).1 (F j).2 ∧ Oct (F j).1.2 ∧ (F j).1.2.length ≤ 140737488351232 :=
        ⟨fun j => if h : j < len then (key j h).choose else ((0, []), .slice none 0 0), fun j hj => by simp only [hj, dite_true]; exact (key j hj).choose_spec⟩
      have hfl : ((List.range len).map fun j => (F j).1).length = len := by simp
      refine ⟨(List.range len).map fun j => (F j).1, (List.range len).map fun j => (F j).2, ⟨by simp, Or.inr ⟨b, off, cap, by rw [hfl], by rw [hfl]; exact hl, hm, hbW, fun j hj => ?_⟩⟩, fun f hf => ?_, fun f hf => ?_⟩
      · rw [hfl] at hj
        have e1 : fth ((List.range len).map fun j => (F j).1) j = (F j).1 := by simp [fth, List.getD, hj]
        have e2 : vth ((List.range len).map fun j => (F j).2) j = (F j).2 := by simp [vth, List.getD, hj]
        rw [e1, e2]
        exact (hF j hj).1
      · simp only [List.mem_map, List.mem_range] at hf
        obtain ⟨j, hj, rfl⟩ := hf
        exact (hF j hj).2.1
      · simp only [List.mem_map, List.mem_range] at hf
        obtain ⟨j, hj, rfl⟩ := hf
        exact (hF j hj).2.2
end Go.Proofs.YtkiagnlpnphghaaDoor
