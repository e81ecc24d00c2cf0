/- Strings in memory: slices of strings; a reader of tokens. -/
import Derived.Test.YthfkmackodbmkaaGreatDoorTextMath
import Derived.Test.YthfkmackodbmkaaGreatDoorInsRow
import Derived.Test.YthfkmackodbmkaaGreatDoorInsRight
import Derived.Laws.PanicsMore
namespace Go.Proofs.YthfkmackodbmkaaGreatDoor
open Go.RowKit
set_option linter.unusedVariables false
set_option linter.unusedSimpArgs false

abbrev str (s : Str) : Value := .string ⟨s.toArray⟩
theorem str_inj {a b : Str} (h : str a = str b) : a = b := by simpa [str] using h

/-- v reads as the strings l. -/
def Ss (w : World) (v : Value) (l : List Str) : Prop :=
  ∃ (ao : Option Addr) (cap : Nat), v = .slice ao l.length cap ∧ l.length ≤ cap ∧ cap ≤ maxLen ∧
    ((ao = none ∧ cap = 0) ∨ ∃ g o cur fr, ao = some ⟨g, o, none⟩ ∧ w.heap[g]? = some (.cells cur 9 fr) ∧ ∀ j t, l[j]? = some t → cur[o + j]? = some (str t))
theorem Ss.nil (w : World) : Ss w (.slice none 0 0) [] := ⟨none, 0, rfl, Nat.le_refl _, Nat.zero_le _, .inl ⟨rfl, rfl⟩⟩
theorem Ss.shape {w : World} {v : Value} {l : List Str} (h : Ss w v l) : ∃ ao cap, v = .slice ao l.length cap := by
  obtain ⟨ao, cap, hv, _⟩ := h; exact ⟨ao, cap, hv⟩
theorem Ss.len {w : World} {v : Value} {l : List Str} (h : Ss w v l) : l.length ≤ 9223372036854775807 := by
  obtain ⟨ao, cap, rfl, h1, h2, _⟩ := h; unfold maxLen at h2; omega
/-- No strings stand there. -/
def NoStrs (w : World) (k : Nat) : Prop := ∀ cur fr, w.heap[k]? ≠ some (.cells cur 9 fr)
theorem Ss.grown {w w' : World} {v : Value} {l : List Str} {row : Option Nat} (h : Ss w v l) (hg : w.grownBy w' row) (hr : ∀ k, row = some k → NoStrs w k) : Ss w' v l := by
  obtain ⟨ao, cap, hv, h1, h2, h3⟩ := h
  refine ⟨ao, cap, hv, h1, h2, ?_⟩
  rcases h3 with h3 | ⟨g, o, cur, fr, e, hb, hc⟩
  · exact .inl h3
  · refine .inr ⟨g, o, cur, fr, e, ?_, hc⟩
    rw [hg.block g (Array.getElem?_eq_some_iff.1 hb).1 (fun e => hr g e.symm cur fr hb)]
    exact hb
theorem Ss.past {w w' : World} {v : Value} {l : List Str} (h : Ss w v l) (hb : Below w.heap.size w w') : Ss w' v l :=
  h.grown (row := none) ⟨hb.os, hb.tape, hb.output, hb.size, fun k hk _ => hb.block k hk⟩ (fun k e => by cases e)
theorem Ss.at {w : World} {ao : Option Addr} {n cap : Nat} {l : List Str} (h : Ss w (.slice ao n cap) l) (hl : 0 < l.length) :
    ∃ g o, ao = some ⟨g, o, none⟩ ∧ n = l.length ∧ n ≤ cap ∧ cap ≤ 9223372036854775807 ∧ g < w.heap.size ∧ ∀ j, j < l.length → w.cell? ⟨g, o + j, none⟩ = some (str (l.getD j [])) := by
  obtain ⟨ao', cap', hv, h1, h2, h3⟩ := h
  cases hv
  unfold maxLen at h2
  rcases h3 with ⟨_, h3⟩ | ⟨g, o, cur, fr, rfl, hb, hc⟩
  · omega
  · refine ⟨g, o, rfl, rfl, h1, h2, (Array.getElem?_eq_some_iff.1 hb).1, fun j hj => ?_⟩
    have := hc j (l[j]) (by simp [hj])
    simp [World.cell?, hb, List.getD, hj, this]
theorem Ss.tail {w : World} {ao : Option Addr} {n cap : Nat} {t : Str} {l : List Str} (h : Ss w (.slice ao n cap) (t :: l)) : Ss w (.slice (if cap - 1 = 0 then ao else ao.map (·.add 1)) (n - 1) (cap - 1)) l := by
  obtain ⟨ao', cap', hv, h1, h2, h3⟩ := h
  cases hv
  simp only [List.length_cons] at h1
  rcases h3 with ⟨_, h3⟩ | ⟨g, o, cur, fr, rfl, hb, hc⟩
  · omega
  · refine ⟨if cap - 1 = 0 then some ⟨g, o, none⟩ else (some ⟨g, o, none⟩ : Option Addr).map (·.add 1), cap - 1, by simp, by omega, by omega, .inr ?_⟩
    by_cases hz : cap - 1 = 0
    · rw [if_pos hz]
      have : l = [] := List.eq_nil_of_length_eq_zero (by omega)
      subst this
      exact ⟨g, o, cur, fr, rfl, hb, fun j t h => by simp at h⟩
    · rw [if_neg hz]
      refine ⟨g, o + 1, cur, fr, by simp [Addr.add], hb, fun j t h => ?_⟩
      have := hc (j + 1) t (by simpa using h)
      rw [show o + 1 + j = o + (j + 1) from by omega]; exact this
/-- A slice's literal. -/
theorem ss_new (w : World) (l : List Str) (hl : l.length ≤ 1000000000) : Ss (w.alloc (.cells (l.map str).toArray 9)) (.slice (some ⟨w.heap.size, 0, none⟩) l.length l.length) l := by
  refine ⟨_, _, rfl, Nat.le_refl _, by unfold maxLen; omega, .inr ⟨w.heap.size, 0, _, (0, 0), rfl, heap_alloc_new w _, fun j t h => ?_⟩⟩
  simp [h]

/-- R is a reader that has v ahead, and was told lab, i, tl. -/
def Rd (w : World) (R : Nat) (v : Value) (lab : Str) (i : Ins) (tl : Str) : Prop :=
  w.heap[R]? = some (.cells #[v, str lab, .int .u8 i.op, .bool i.nw, .int .i64 i.dst, .int .i64 i.src, .bool i.ui, .int .i64 i.off, .int .i64 i.im, .int .i64 i.sz, str tl] 127 (0, 0))
theorem Rd.lt {w : World} {R : Nat} {v : Value} {lab : Str} {i : Ins} {tl : Str} (h : Rd w R v lab i tl) : R < w.heap.size := (Array.getElem?_eq_some_iff.1 h).1
theorem Rd.cells {w : World} {R : Nat} {v : Value} {lab : Str} {i : Ins} {tl : Str} (h : Rd w R v lab i tl) :
    w.cell? ⟨R, 0, none⟩ = some v ∧ w.cell? ⟨R, 1, none⟩ = some (str lab) ∧ w.cell? ⟨R, 2, none⟩ = some (.int .u8 i.op) ∧ w.cell? ⟨R, 3, none⟩ = some (.bool i.nw) ∧ w.cell? ⟨R, 4, none⟩ = some (.int .i64 i.dst) ∧ w.cell? ⟨R, 5, none⟩ = some (.int .i64 i.src) ∧ w.cell? ⟨R, 6, none⟩ = some (.bool i.ui) ∧ w.cell? ⟨R, 7, none⟩ = some (.int .i64 i.off) ∧ w.cell? ⟨R, 8, none⟩ = some (.int .i64 i.im) ∧ w.cell? ⟨R, 9, none⟩ = some (.int .i64 i.sz) ∧ w.cell? ⟨R, 10, none⟩ = some (str tl) := by
  unfold Rd at h
  simp [World.cell?, h]
theorem Rd.free {w : World} {R : Nat} {v : Value} {lab : Str} {i : Ins} {tl : Str} (h : Rd w R v lab i tl) (k : Nat) : w.frozen? ⟨R, k, none⟩ = false := by
  unfold Rd at h
  simp [World.frozen?, h]
theorem Rd.noStrs {w : World} {R : Nat} {v : Value} {lab : Str} {i : Ins} {tl : Str} (h : Rd w R v lab i tl) : NoStrs w R := by
  intro cur fr hb
  rw [show w.heap[R]? = _ from h] at hb
  simp at hb
theorem Rd.keep {w w' : World} {R : Nat} {v : Value} {lab : Str} {i : Ins} {tl : Str} {row : Option Nat} (h : Rd w R v lab i tl) (hg : w.grownBy w' row) (hne : row ≠ some R) : Rd w' R v lab i tl :=
  (hg.block R h.lt (fun e => hne e.symm)).trans h
theorem Rd.past {w w' : World} {R : Nat} {v : Value} {lab : Str} {i : Ins} {tl : Str} (h : Rd w R v lab i tl) (hb : Below w.heap.size w w') : Rd w' R v lab i tl := (hb.block R h.lt).trans h
theorem setCell_grown (w : World) (R k : Nat) (u : Value) : w.grownBy (w.setCell ⟨R, k, none⟩ u) (some R) :=
  ⟨rfl, rfl, rfl, by simp [World.setCell], fun b hb hne => by
    have : R ≠ b := fun e => hne (by rw [e])
    simp [World.setCell, Array.getElem?_modify, this]⟩
/-- A cell of a block is written. -/
theorem heap_set {w : World} {R : Nat} {cs : Array Value} {t : TypeId} {fr : Nat × Nat} (h : w.heap[R]? = some (.cells cs t fr)) (k : Nat) (u : Value) : (w.setCell ⟨R, k, none⟩ u).heap[R]? = some (.cells (cs.setIfInBounds k u) t fr) := by
  simp only [World.setCell, Array.getElem?_modify, h]
  simp
theorem Rd.set0 {w : World} {R : Nat} {v : Value} {lab : Str} {i : Ins} {tl : Str} (h : Rd w R v lab i tl) (u : Value) : Rd (w.setCell ⟨R, 0, none⟩ u) R u lab i tl := by
  have := heap_set h 0 u; simpa [Rd] using this
theorem Rd.set1 {w : World} {R : Nat} {v : Value} {lab : Str} {i : Ins} {tl : Str} (h : Rd w R v lab i tl) (u : Str) : Rd (w.setCell ⟨R, 1, none⟩ (str u)) R v u i tl := by
  have := heap_set h 1 (str u); simpa [Rd] using this
theorem Rd.set4 {w : World} {R : Nat} {v : Value} {lab : Str} {i : Ins} {tl : Str} (h : Rd w R v lab i tl) (u : Int) : Rd (w.setCell ⟨R, 4, none⟩ (.int .i64 u)) R v lab { i with dst := u } tl := by
  have := heap_set h 4 (.int .i64 u); simpa [Rd] using this
theorem Rd.set5 {w : World} {R : Nat} {v : Value} {lab : Str} {i : Ins} {tl : Str} (h : Rd w R v lab i tl) (u : Int) : Rd (w.setCell ⟨R, 5, none⟩ (.int .i64 u)) R v lab { i with src := u } tl := by
  have := heap_set h 5 (.int .i64 u); simpa [Rd] using this
theorem Rd.set6 {w : World} {R : Nat} {v : Value} {lab : Str} {i : Ins} {tl : Str} (h : Rd w R v lab i tl) (u : Bool) : Rd (w.setCell ⟨R, 6, none⟩ (.bool u)) R v lab { i with ui := u } tl := by
  have := heap_set h 6 (.bool u); simpa [Rd] using this
theorem Rd.set7 {w : World} {R : Nat} {v : Value} {lab : Str} {i : Ins} {tl : Str} (h : Rd w R v lab i tl) (u : Int) : Rd (w.setCell ⟨R, 7, none⟩ (.int .i64 u)) R v lab { i with off := u } tl := by
  have := heap_set h 7 (.int .i64 u); simpa [Rd] using this
theorem Rd.set8 {w : World} {R : Nat} {v : Value} {lab : Str} {i : Ins} {tl : Str} (h : Rd w R v lab i tl) (u : Int) : Rd (w.setCell ⟨R, 8, none⟩ (.int .i64 u)) R v lab { i with im := u } tl := by
  have := heap_set h 8 (.int .i64 u); simpa [Rd] using this
theorem Rd.set10 {w : World} {R : Nat} {v : Value} {lab : Str} {i : Ins} {tl : Str} (h : Rd w R v lab i tl) (u : Str) : Rd (w.setCell ⟨R, 10, none⟩ (str u)) R v lab i u := by
  have := heap_set h 10 (str u); simpa [Rd] using this

/-- R is a reader that has the tokens ts ahead, and was told lab, i, tl. -/
def Rdr (w : World) (R : Nat) (ts : List Str) (lab : Str) (i : Ins) (tl : Str) : Prop := (∀ t ∈ ts, Tok t) ∧ ts.length ≤ 1000000000 ∧ ∃ v, Rd w R v lab i tl ∧ Ss w v ts
theorem Rdr.lt {w : World} {R : Nat} {ts : List Str} {lab : Str} {i : Ins} {tl : Str} (h : Rdr w R ts lab i tl) : R < w.heap.size := by obtain ⟨_, _, v, h, _⟩ := h; exact h.lt
theorem Rdr.past {w w' : World} {R : Nat} {ts : List Str} {lab : Str} {i : Ins} {tl : Str} (h : Rdr w R ts lab i tl) (hb : Below w.heap.size w w') : Rdr w' R ts lab i tl := by
  obtain ⟨h0, hl, v, h1, h2⟩ := h; exact ⟨h0, hl, v, h1.past hb, h2.past hb⟩
theorem Rdr.shape {w : World} {R : Nat} {ts : List Str} {lab : Str} {i : Ins} {tl : Str} (h : Rdr w R ts lab i tl) : ∃ ao cap, Rd w R (.slice ao ts.length cap) lab i tl ∧ Ss w (.slice ao ts.length cap) ts := by
  obtain ⟨_, _, v, h1, h2⟩ := h
  obtain ⟨ao, cap, rfl⟩ := h2.shape
  exact ⟨ao, cap, h1, h2⟩
/-- A panic of what the language has not. -/
abbrev NoLine : Ending := .panicked [{ v := .iface 293 (.agg #[]), recovered := false }]

theorem must_ok (w : World) : Calls Tryz.prog 131 #[.bool true] w fun e w' => e = .returned (.tuple #[]) ∧ w = w' := by
  go_enter Tryz.func131, Tryz.ntmps131
  go_wp2
  go_end0
  exact ⟨rfl, rfl⟩
theorem must_no (w : World) : Calls Tryz.prog 131 #[.bool false] w fun e w' => e = NoLine ∧ w = w' := by
  go_enter Tryz.func131, Tryz.ntmps131
  go_wp2
  exact ⟨rfl, rfl, rfl⟩
theorem empty {w : World} {R : Nat} {ts : List Str} {lab : Str} {i : Ins} {tl : Str} (h : Rdr w R ts lab i tl) : Calls Tryz.prog 133 #[.pointer (some ⟨R, 0, none⟩)] w fun e w' => e = .returned (.bool (decide (ts = []))) ∧ w = w' := by
  obtain ⟨ao, cap, h1, h2⟩ := h.shape
  have c0 := h1.cells.1
  clear h1 h2 h
  go_enter Tryz.func133, Tryz.ntmps133
  go_wp2
  go_ret
  exact ⟨ret_bool (by cases ts <;> simp <;> omega), rfl⟩
theorem next_some {w : World} {R : Nat} {t : Str} {ts : List Str} {lab : Str} {i : Ins} {tl : Str} (h : Rdr w R (t :: ts) lab i tl) :
    Calls Tryz.prog 185 #[.pointer (some ⟨R, 0, none⟩)] w fun e w' => e = .returned (str t) ∧ Rdr w' R ts lab i tl ∧ w.grownBy w' (some R) := by
  have E := empty h
  have M := must_ok w
  obtain ⟨ao, cap, h1, h2⟩ := h.shape
  obtain ⟨g, o, rfl, _, z1, z2, z3, z4⟩ := h2.at (by simp)
  have c0 := h1.cells.1
  have f0 := h1.free 0
  have d0 : w.cell? ⟨g, o, none⟩ = some (str t) := by simpa using z4 0 (by simp)
  have G0 : Hid (∀ u, Ss w u ts → Rdr (w.setCell ⟨R, 0, none⟩ u) R ts lab i tl ∧ w.grownBy (w.setCell ⟨R, 0, none⟩ u) (some R)) :=
    Lib.hid fun u hu => ⟨⟨fun t' h' => h.1 t' (List.mem_cons_of_mem _ h'), by have := h.2.1; simp at this; omega, u, h1.set0 u, hu.grown (setCell_grown w R 0 u) (fun k e => by cases e; exact h1.noStrs)⟩, setCell_grown w R 0 u⟩
  have T0 := Lib.hid h2.tail
  clear h h1 h2 z4
  go_enter Tryz.func185, Tryz.ntmps185
  go_wp2_with fail
  refine E.mono ?_; rintro e w' ⟨rfl, rfl⟩
  go_wp2_with fail
  refine M.mono ?_; rintro e w' ⟨rfl, rfl⟩
  go_wp2_with fail
  all_goals
    go_ret
    refine ⟨rfl, G0.out _ ?_⟩
  · have hc : cap = 1 := by assumption
    subst hc
    simpa using T0.out
  · have hc : ¬ cap = 1 := by assumption
    have h1 : ¬ cap - 1 = 0 := by have : (t :: ts).length = ts.length + 1 := rfl; omega
    simpa [h1, Addr.add] using T0.out
theorem next_none {w : World} {R : Nat} {lab : Str} {i : Ins} {tl : Str} (h : Rdr w R [] lab i tl) :
    Calls Tryz.prog 185 #[.pointer (some ⟨R, 0, none⟩)] w fun e w' => e = NoLine ∧ w = w' := by
  have E := empty h
  have M := must_no w
  clear h
  go_enter Tryz.func185, Tryz.ntmps185
  go_wp2_with fail
  refine E.mono ?_; rintro e w' ⟨rfl, rfl⟩
  go_wp2_with fail
  refine M.mono ?_; rintro e w' ⟨rfl, rfl⟩
  go_wp2_with fail
  exact ⟨rfl, rfl, rfl⟩
end Go.Proofs.YthfkmackodbmkaaGreatDoor
