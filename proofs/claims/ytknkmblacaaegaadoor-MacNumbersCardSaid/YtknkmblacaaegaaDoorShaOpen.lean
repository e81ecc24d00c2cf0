/- What the layer's rows have of their conditions: the two tables that are laid, the bytes that came in. -/
import Derived.Test.YtknkmblacaaegaaDoorShaKit
import Derived.Test.YtknkmblacaaegaaDoorRows
import Derived.Lib.LaidTab
import Derived.Stop.LaidErr
import Derived.MakeChecks
import Derived.LaidMore
import Derived.ProofKit
namespace Go.Proofs.YtknkmblacaaegaaDoor
open Go.ChangeShapes Go.WideShapes Go.ChangeAt Go.RowKit
set_option linter.unusedVariables false
set_option linter.unusedSimpArgs false
set_option maxRecDepth 100000

/-- The variables that the rows list. -/
def listed : List (String × DataW Unit) := [("barbican/sha.cubeRoots", Rows.laid_barbican_sha_cubeRoots), ("barbican/sha.squareRoots", Rows.laid_barbican_sha_squareRoots)]
theorem gCube : Tryd.prog.globalNamed "barbican/sha.cubeRoots" = some 1 := by kernel_rfl
theorem gCubeType : (Tryd.prog.globals[1]?).map (·.type) = some 181 := by kernel_rfl
theorem gSquare : Tryd.prog.globalNamed "barbican/sha.squareRoots" = some 0 := by kernel_rfl
theorem gSquareType : (Tryd.prog.globals[0]?).map (·.type) = some 66 := by kernel_rfl
theorem door_met (os : Os) (args : Array Value) : laidMetH Tryd.prog listed ((World.doorLaid Tryd.prog 400 os).forCall (fun _ _ => 0) ⟨#[], args, []⟩).memory :=
  laidMetH_of_parts3 (fuel := 8) (laidMet_of_run' 8 (by kernel_rfl) (by kernel_rfl)) (by kernel_rfl) (by kernel_rfl)
theorem rng_of_tab {W : World} {name : String} {g : Nat} {l : List Nat} (h : Lib.TabIs Tryd.prog W name .u32 (l.map fun n => ((n : Nat) : Int))) (hg : Tryd.prog.globalNamed name = some g) (h0 : 0 < l.length) : Rng W g (wv l) := by
  have hc : ∀ i, i < l.length → W.cell? ⟨g, i, none⟩ = some (.int .u32 (wth l i : Nat)) := fun i hi => by
    rw [h.cell hg i (by simpa using hi)]
    simp [wth, List.getD, hi]
  refine ⟨World.block_lt_of_cell? W _ (hc 0 h0), fun j v hv => ?_⟩
  have hj : j < l.length := by
    have := (List.getElem?_eq_some_iff.1 hv).1
    simpa [wv] using this
  rw [wv_at hj] at hv
  cases hv
  rw [Nat.zero_add]
  exact hc j hj
theorem tabs_of_laid {W : World} (h : laidMetH Tryd.prog listed W) : Tabs W := by
  rw [MakeChecks.laidMetH_plain _ _ _ (by kernel_rfl)] at h
  have h1 : Lib.TabIs Tryd.prog W "barbican/sha.cubeRoots" .u32 (kon.map fun n => ((n : Nat) : Int)) :=
    Lib.tabIs_of_head (rest := [("barbican/sha.squareRoots", Rows.laid_barbican_sha_squareRoots)]) gCube gCubeType Tryd.underlying181 Tryd.underlying65 (by kernel_rfl) (by kernel_rfl) (show laidMet Tryd.prog [("barbican/sha.cubeRoots", Lib.tabData .u32 (kon.map fun n => ((n : Nat) : Int))), ("barbican/sha.squareRoots", Rows.laid_barbican_sha_squareRoots)] W from h)
  have h2 : Lib.TabIs Tryd.prog W "barbican/sha.squareRoots" .u32 (hon.list.map fun n => ((n : Nat) : Int)) :=
    Lib.tabIs_of_head (rest := []) gSquare gSquareType Tryd.underlying66 Tryd.underlying65 (by kernel_rfl) (by kernel_rfl) (show laidMet Tryd.prog [("barbican/sha.squareRoots", Lib.tabData .u32 (hon.list.map fun n => ((n : Nat) : Int)))] W from h.tail)
  exact ⟨rng_of_tab h2 gSquare (by decide), rng_of_tab h1 gCube (by decide)⟩

/-- Bytes that came in; they are within the reach. -/
theorem open_bs3 {H : Type} {enc : TypeId × Value → H} {W : World} {r : Reach} {b0 base : Nat} {held : Bool} {v : Value} {d : DataW H} {p : List MemPlace} {ts : List TypeId} {ds : List (DataW H)} {j : Nat}
    (hval : Value.okWide Tryd.prog W r b0 22 v) (h : DataW.Trod enc Tryd.prog W base (fun _ => true) held 22 v d p)
    (hsz : (DataW.weightsEach Tryd.prog ts ds).all (· ≤ reachBytes) = true) (ht : ts[j]? = some 22) (hd : ds[j]? = some d) : ∃ l : List Int, Bs W v l ∧ Oct l ∧ l.length ≤ 140737488351232 := by
  have hall : ∀ n ∈ d.weights Tryd.prog 22, n ≤ reachBytes := fun n hn => by
    simpa using List.all_eq_true.1 hsz _ (DataW.weights_mem_each ht hd n hn)
  obtain ⟨a, len, cap, rfl⟩ := okWide_slice Tryd.underlying22 hval
  obtain ⟨fuel, hf⟩ := h
  have hf : DataW.trod enc Tryd.prog W base (fun _ => true) held fuel 22 [.slice a len cap] = some (d, p) := by simpa [Value.cells] using hf
  rcases open_ints Tryd.underlying22 Tryd.underlying5 (by kernel_rfl) hf with ⟨hcs, hx⟩ | ⟨a', len', cap', zs, hcs, _, hl, hm, hz, hx, hcell, hwz⟩
  · simp at hcs
    obtain ⟨rfl, rfl, rfl⟩ := hcs
    exact ⟨[], Bs.nil W, Oct.nil, Nat.zero_le _⟩
  · simp at hcs
    obtain ⟨rfl, rfl, rfl⟩ := hcs
    simp only [if_true] at hz
    have hlen : (zs.take len).length = len := by rw [List.length_take]; omega
    refine ⟨zs.take len, ⟨some a', cap, by rw [hlen], by rw [hlen]; exact hl, hm, (by intro e; cases e), fun a2 ha j hj => ?_⟩, fun n hn => u8_bounds (hwz n (List.mem_of_mem_take hn)), ?_⟩
    · cases ha
      rw [hlen] at hj
      have hj' : j < zs.length := by omega
      rw [hcell j hj', nth_of (by rw [hlen]; exact hj)]
      simp [List.getD, hj', List.getElem_take]
    · have hb : Tryd.prog.bytesOf 5 = 1 := by kernel_rfl
      have e := (Prod.ext_iff.1 hx).1
      simp only at e
      have := hall ((lits (H := H) .u8 (zs.take len)).length + (lits (H := H) .u8 (zs.drop len)).length) (by
        rw [e]
        simp [DataW.weights, Tryd.underlying22, hb])
      simp [lits] at this
      unfold reachBytes at this
      rw [hlen]; omega
end Go.Proofs.YtknkmblacaaegaaDoor
