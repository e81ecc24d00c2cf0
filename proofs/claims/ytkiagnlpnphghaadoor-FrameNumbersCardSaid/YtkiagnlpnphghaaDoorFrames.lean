/- Slices of frames as plain lists: what reads as frames, rows of frames of the call's own. -/
import Derived.Test.YtkiagnlpnphghaaDoorFrHead
namespace Go.Proofs.YtkiagnlpnphghaaDoor
open Go.RowKit
set_option linter.unusedVariables false
set_option linter.unusedSimpArgs false

def noFr : Fr := (0, [])
def fth (fs : List Fr) (j : Nat) : Fr := fs.getD j noFr
theorem fth_of {fs : List Fr} {j : Nat} (h : j < fs.length) : fth fs j = fs[j] := by simp [fth, List.getD, h]
theorem fth_mem {fs : List Fr} {j : Nat} (h : j < fs.length) : fth fs j ∈ fs := by rw [fth_of h]; exact List.getElem_mem h
theorem fth_get {fs : List Fr} {j : Nat} (h : j < fs.length) : fs[j]? = some (fth fs j) := by rw [fth_of h]; exact List.getElem?_eq_getElem h
theorem take_fth {fs : List Fr} {k : Nat} (h : k < fs.length) : fs.take (k + 1) = fs.take k ++ [fth fs k] := by
  rw [List.take_succ_eq_append_getElem h, fth_of h]
theorem drop_fth {fs : List Fr} {k : Nat} (h : k < fs.length) : fs.drop k = fth fs k :: fs.drop (k + 1) := by
  rw [fth_of h]; exact List.drop_eq_getElem_cons h
theorem frms_take {fs : List Fr} {k : Nat} (h : k < fs.length) : frms (fs.take (k + 1)) = frms (fs.take k) ++ frm (fth fs k) := by
  rw [take_fth h, frms_append, frms_one]
theorem frms_take_le (fs : List Fr) (k : Nat) : (frms (fs.take k)).length ≤ (frms fs).length := by
  have : (frms fs).length = (frms (fs.take k)).length + (frms (fs.drop k)).length := by
    rw [← List.length_append, ← frms_append, List.take_append_drop]
  omega

/-- A frame at a place in memory: u holds its bytes. -/
structure FrAt (w : World) (b o : Nat) (f : Fr) (u : Value) : Prop where
  c0 : w.cell? ⟨b, o, none⟩ = some (.int .i64 f.1)
  c1 : w.cell? ⟨b, o + 1, none⟩ = some u
  bs : Bs w u f.2
theorem FrAt.past {w w' : World} {b o : Nat} {f : Fr} {u : Value} (h : FrAt w b o f u) (hb : Below w.heap.size w w') : FrAt w' b o f u := by
  have hB := World.block_lt_of_cell? w _ h.c0
  exact ⟨(hb.cell (p := ⟨b, o, none⟩) hB).trans h.c0, (hb.cell (p := ⟨b, o + 1, none⟩) hB).trans h.c1, h.bs.past hb⟩
/-- v is a slice of the frames fs; vs hold their bytes. -/
def Frs (w : World) (v : Value) (vs : List Value) (fs : List Fr) : Prop :=
  vs.length = fs.length ∧ ((fs = [] ∧ ∃ ao cap, v = .slice ao 0 cap) ∨ ∃ b off cap, v = .slice (some ⟨b, off, none⟩) fs.length cap ∧ fs.length ≤ cap ∧ cap ≤ maxLen ∧ b < w.heap.size ∧ ∀ j, j < fs.length → FrAt w b (off + j * 2) (fth fs j) (vth vs j))
theorem Frs.shape {w : World} {v : Value} {vs : List Value} {fs : List Fr} (h : Frs w v vs fs) : ∃ ao cap, v = .slice ao fs.length cap := by
  rcases h.2 with ⟨rfl, ao, cap, rfl⟩ | ⟨b, off, cap, rfl, -⟩
  · exact ⟨ao, cap, rfl⟩
  · exact ⟨_, cap, rfl⟩
theorem Frs.len {w : World} {v : Value} {vs : List Value} {fs : List Fr} (h : Frs w v vs fs) : fs.length ≤ 9223372036854775807 := by
  rcases h.2 with ⟨rfl, _⟩ | ⟨b, off, cap, rfl, h1, h2, -⟩
  · simp
  · unfold maxLen at h2; omega
theorem Frs.past {w w' : World} {v : Value} {vs : List Value} {fs : List Fr} (h : Frs w v vs fs) (hb : Below w.heap.size w w') : Frs w' v vs fs := by
  refine ⟨h.1, ?_⟩
  rcases h.2 with h | ⟨b, off, cap, hv, h1, h2, h3, h4⟩
  · exact Or.inl h
  · exact Or.inr ⟨b, off, cap, hv, h1, h2, Nat.lt_of_lt_of_le h3 hb.size, fun j hj => (h4 j hj).past hb⟩
theorem Frs.at {w : World} {v : Value} {vs : List Value} {fs : List Fr} (h : Frs w v vs fs) {j : Nat} (hj : j < fs.length) : ∃ b off cap, v = .slice (some ⟨b, off, none⟩) fs.length cap ∧ b < w.heap.size ∧ FrAt w b (off + j * 2) (fth fs j) (vth vs j) := by
  rcases h.2 with ⟨rfl, _⟩ | ⟨b, off, cap, hv, h1, h2, h3, h4⟩
  · cases hj
  · exact ⟨b, off, cap, hv, h3, h4 j hj⟩

/-- A frame's two cells. -/
def fcells : List Value → List Fr → List Value
  | u :: vs, f :: fs => .int .i64 f.1 :: u :: fcells vs fs
  | _, _ => []
theorem fcells_append {vs : List Value} {fs : List Fr} (h : vs.length = fs.length) (u : Value) (f : Fr) : fcells (vs ++ [u]) (fs ++ [f]) = fcells vs fs ++ [.int .i64 f.1, u] := by
  induction vs generalizing fs with
  | nil => cases fs with
    | nil => rfl
    | cons _ _ => cases h
  | cons x vs ih => cases fs with
    | nil => cases h
    | cons g fs => simp only [List.cons_append, fcells, ih (by simpa using h)]
theorem fcells_length {vs : List Value} {fs : List Fr} (h : vs.length = fs.length) : (fcells vs fs).length = fs.length * 2 := by
  induction vs generalizing fs with
  | nil => cases fs with
    | nil => rfl
    | cons _ _ => cases h
  | cons x vs ih => cases fs with
    | nil => cases h
    | cons g fs => simp only [fcells, List.length_cons, ih (by simpa using h)]; omega
theorem fcells_get {vs : List Value} {fs : List Fr} (h : vs.length = fs.length) {j : Nat} (hj : j < fs.length) : (fcells vs fs)[j * 2]? = some (.int .i64 (fth fs j).1) ∧ (fcells vs fs)[j * 2 + 1]? = some (vth vs j) := by
  induction vs generalizing fs j with
  | nil => cases fs with
    | nil => cases hj
    | cons _ _ => cases h
  | cons x vs ih => cases fs with
    | nil => cases h
    | cons g fs =>
      cases j with
      | zero => exact ⟨rfl, rfl⟩
      | succ j =>
        have := ih (fs := fs) (by simpa using h) (j := j) (by simpa using hj)
        rw [show (j + 1) * 2 = j * 2 + 2 from by omega]
        simpa [fcells, fth, vth] using this
/-- v is a row of frames of the call's own, in a block of elements of type t. -/
def OwnF (t : TypeId) (w : World) (base : Nat) (v : Value) (vs : List Value) (fs : List Fr) : Prop := vs.length = fs.length ∧ w.ownsRow base t 2 v fs.length (fcells vs fs)
theorem OwnF.nil (t : TypeId) (w : World) (base : Nat) : OwnF t w base (.slice none 0 0) [] [] := ⟨rfl, World.ownsRow_nil _ _ _ _⟩
theorem OwnF.lt {t : TypeId} {w : World} {base : Nat} {v : Value} {vs : List Value} {fs : List Fr} (h : OwnF t w base v vs fs) : ∀ k, v.ownBlock = some k → base ≤ k ∧ k < w.heap.size := World.ownsRow.lt h.2
theorem OwnF.kept {t : TypeId} {w w' : World} {base : Nat} {v : Value} {vs : List Value} {fs : List Fr} {row : Option Nat} (h : OwnF t w base v vs fs) (hg : w.grownBy w' row) (hne : v.ownBlock = none ∨ v.ownBlock ≠ row) : OwnF t w' base v vs fs := ⟨h.1, World.ownsRow.kept h.2 hg hne⟩
theorem OwnF.past {t : TypeId} {w w' : World} {base : Nat} {v : Value} {vs : List Value} {fs : List Fr} (h : OwnF t w base v vs fs) (hb : Below w.heap.size w w') : OwnF t w' base v vs fs :=
  h.kept (row := none) (below_grownBy hb none) (by cases v.ownBlock <;> simp)
theorem OwnF.shape {t : TypeId} {w : World} {base : Nat} {v : Value} {vs : List Value} {fs : List Fr} (h : OwnF t w base v vs fs) : ∃ ao cap, v = .slice ao fs.length cap := by
  rcases h.2.2 with ⟨rfl, h0⟩ | ⟨g, c, cur, rfl, _⟩
  · exact ⟨none, 0, by rw [h0]⟩
  · exact ⟨_, c, rfl⟩
/-- The block that a row of frames stands in. -/
theorem OwnF.tag {t : TypeId} {w : World} {base : Nat} {v : Value} {vs : List Value} {fs : List Fr} (h : OwnF t w base v vs fs) {k : Nat} (hk : v.ownBlock = some k) : base ≤ k ∧ ∃ cur, w.heap[k]? = some (.cells cur t (0, 0)) := by
  rcases h.2.2 with ⟨rfl, h0⟩ | ⟨g, c, cur, rfl, hb, hg, -⟩
  · cases hk
  · cases hk
    exact ⟨hb, cur, hg⟩
/-- A row of frames reads as frames. -/
theorem OwnF.frs {t : TypeId} {w : World} {base : Nat} {v : Value} {vs : List Value} {fs : List Fr} (h : OwnF t w base v vs fs) (hb : ∀ j, j < fs.length → Bs w (vth vs j) (fth fs j).2) : Frs w v vs fs := by
  refine ⟨h.1, ?_⟩
  rcases h.2.2 with ⟨rfl, h0⟩ | ⟨g, c, cur, rfl, _, hg, hn, hc, hs, ht⟩
  · exact Or.inl ⟨List.eq_nil_of_length_eq_zero h0, none, 0, rfl⟩
  · refine Or.inr ⟨g, 0, c, rfl, hn, hc, (Array.getElem?_eq_some_iff.1 hg).1, fun j hj => ?_⟩
    obtain ⟨e0, e1⟩ := fcells_get h.1 hj
    rw [← ht, List.getElem?_take, if_pos (by omega)] at e0 e1
    exact ⟨by rw [cell_of_row w g _ cur t (0, 0) hg]; simpa using e0, by rw [cell_of_row w g _ cur t (0, 0) hg]; simpa using e1, hb j hj⟩
theorem frInfo (t : TypeId) (h : t = 36 ∨ t = 46) : ∃ i, Tryd.prog.info? t = some i ∧ i.zero = some (.agg #[.int .i64 0, .slice none 0 0]) ∧ i.size = 2 ∧ i.bytes = 32 := by
  rcases h with rfl | rfl
  · exact info_parts (by kernel_rfl : (Tryd.prog.info? 36).map (fun i => (i.zero, i.size, i.bytes)) = some (some (.agg #[.int .i64 0, .slice none 0 0]), 2, 32))
  · exact info_parts (by kernel_rfl : (Tryd.prog.info? 46).map (fun i => (i.zero, i.size, i.bytes)) = some (some (.agg #[.int .i64 0, .slice none 0 0]), 2, 32))
/-- append, of one frame, to a row of frames: the run. -/
theorem run_append_f (w : World) (t tl ty : TypeId) (htl : Tryd.prog.underlying tl = some (.slice t)) (ht : t = 36 ∨ t = 46)
    (base : Nat) (v : Value) (vs : List Value) (fs : List Fr) (hown : OwnF t w base v vs fs) (b : Nat) (f : Fr) (u : Value) (hu : u.oneCell' = true) (h0 : w.cell? ⟨b, 0, none⟩ = some (.int .i64 f.1)) (h1 : w.cell? ⟨b, 1, none⟩ = some u)
    (hlen : fs.length ≤ 1000000) (hbase : base ≤ w.heap.size) :
    ∃ v' w', (Builtin.append_ #[tl, tl] ty #[v, .slice (some ⟨b, 0, none⟩) 1 1]).run Tryd.prog w = .ok v' w' ∧ OwnF t w' base v' (vs ++ [u]) (fs ++ [f]) ∧ w.grownBy w' v.ownBlock := by
  obtain ⟨i, hi, hz, hs1, hb1⟩ := frInfo t ht
  obtain ⟨v', w', hr, ho, hg, -⟩ := run_append_own (P := Tryd.prog) (w := w) (t := tl) (ty := ty) (base := base) (e := t) (i := i) (z := .agg #[.int .i64 0, .slice none 0 0]) (size := 2) (bytes := 32) htl hi hz hs1 hb1 rfl (by decide) v _ _ hown.2 ⟨b, 0, none⟩ 1 1 [.int .i64 f.1, u] rfl
    (fun j u' hj => by
      match j, hj with
      | 0, hj => simp at hj; subst hj; simpa [Addr.add] using h0
      | 1, hj => simp at hj; subst hj; simpa [Addr.add] using h1)
    (fun u' hu' => by
      simp at hu'
      rcases hu' with rfl | rfl
      · rfl
      · exact hu) (by unfold maxLen; omega) (by omega) hbase
  refine ⟨v', w', hr, ⟨by simp [hown.1], ?_⟩, hg⟩
  rw [fcells_append hown.1, List.length_append]
  exact ho
end Go.Proofs.YtkiagnlpnphghaaDoor
