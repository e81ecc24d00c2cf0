/- Instructions that came in, read. -/
import Derived.Test.YthfkmackodbmkaaGreatDoorInsLent
import Derived.Test.YthfkmackodbmkaaGreatDoorRows
import Derived.Stop.LaidErr
import Derived.ProofKit
import Derived.Deep.Slices
namespace Go.Proofs.YthfkmackodbmkaaGreatDoor
open Go.ChangeShapes Go.WideShapes Go.ChangeAt Go.RowKit
set_option linter.unusedVariables false
set_option linter.unusedSimpArgs false
set_option maxRecDepth 100000

theorem open_ins_cells {H : Type} {enc : TypeId × Value → H} {W : World} {base : Nat} {held : Bool} {fuel : Nat} {c0 c1 c2 c3 c4 c5 c6 c7 : Value} {x : DataW H × List MemPlace}
    (h : DataW.trod enc Tryz.prog W base (fun _ => true) held fuel 47 [c0, c1, c2, c3, c4, c5, c6, c7] = some x) :
    ∃ i : Ins, InsWf i ∧ c0 = .int .u8 i.op ∧ c1 = .bool i.nw ∧ c2 = .int .i64 i.dst ∧ c3 = .int .i64 i.src ∧ c4 = .bool i.ui ∧ c5 = .int .i64 i.off ∧ c6 = .int .i64 i.im ∧ c7 = .int .i64 i.sz := by
  obtain ⟨xs, n, _, rfl, hl, hlen, hf⟩ := DataW.trod_struct Tryz.underlying47 h
  match xs, hlen with
  | [y0, y1, y2, y3, y4, y5, y6, y7], _ =>
    have one : ∀ t, t = 3 ∨ t = 45 ∨ t = 4 → Tryz.prog.cellsOf t = 1 := by
      rintro t (rfl | rfl | rfl) <;> kernel_rfl
    have h0 := hf 0 _ rfl
    have h1 := hf 1 _ rfl
    have h2 := hf 2 _ rfl
    have h3 := hf 3 _ rfl
    have h4 := hf 4 _ rfl
    have h5 := hf 5 _ rfl
    have h6 := hf 6 _ rfl
    have h7 := hf 7 _ rfl
    rw [one _ (by simp)] at h0 h1 h2 h3 h4 h5 h6 h7
    obtain ⟨a0, e0, _, w0⟩ := DataW.trod_int Tryz.underlying45 h0
    obtain ⟨a1, e1, _⟩ := DataW.trod_bool Tryz.underlying4 h1
    obtain ⟨a2, e2, _, w2⟩ := DataW.trod_int Tryz.underlying3 h2
    obtain ⟨a3, e3, _, w3⟩ := DataW.trod_int Tryz.underlying3 h3
    obtain ⟨a4, e4, _⟩ := DataW.trod_bool Tryz.underlying4 h4
    obtain ⟨a5, e5, _, w5⟩ := DataW.trod_int Tryz.underlying3 h5
    obtain ⟨a6, e6, _, w6⟩ := DataW.trod_int Tryz.underlying3 h6
    obtain ⟨a7, e7, _, w7⟩ := DataW.trod_int Tryz.underlying3 h7
    simp at e0 e1 e2 e3 e4 e5 e6 e7
    have b0 := u8_bounds w0
    have b2 := i64_bounds w2
    have b3 := i64_bounds w3
    have b5 := i64_bounds w5
    have b6 := i64_bounds w6
    have b7 := i64_bounds w7
    exact ⟨⟨a0, a1, a2, a3, a4, a5, a6, a7⟩, ⟨b0.1, (by show a0 ≤ 255; omega), b2.1, b2.2, b3.1, b3.2, b5.1, b5.2, b6.1, b6.2, b7.1, b7.2⟩, e0, e1, e2, e3, e4, e5, e6, e7⟩
theorem inss_mk {w : World} {b off cap : Nat} {l : List Ins} (h1 : l.length ≤ cap) (h2 : cap ≤ maxLen) (h : ∀ j, j < l.length → At8 w b (off + j * 8) (ith l j)) : Inss w (.slice (some ⟨b, off, none⟩) l.length cap) l := by
  refine ⟨_, cap, rfl, h1, h2, fun h => (by cases h), fun a ha j u hu => ?_⟩
  cases ha
  have hj : j < (icl l).length := (List.getElem?_eq_some_iff.1 hu).1
  rw [icl_length] at hj
  have e : j = j / 8 * 8 + j % 8 := by omega
  have hr : j % 8 < 8 := by omega
  have hq : j / 8 < l.length := by omega
  rw [e, icl_get hq hr] at hu
  rw [add_none, e]
  have A := h (j / 8) hq
  generalize j / 8 = q at *
  generalize j % 8 = r at *
  have : r = 0 ∨ r = 1 ∨ r = 2 ∨ r = 3 ∨ r = 4 ∨ r = 5 ∨ r = 6 ∨ r = 7 := by omega
  rcases this with rfl | rfl | rfl | rfl | rfl | rfl | rfl | rfl <;> (simp only [icells, List.getElem?_cons_zero, List.getElem?_cons_succ, Option.some.injEq] at hu; subst hu; rw [← Nat.add_assoc])
  · exact A.c0
  · exact A.c1
  · exact A.c2
  · exact A.c3
  · exact A.c4
  · exact A.c5
  · exact A.c6
  · exact A.c7

theorem open_inss {H : Type} {enc : TypeId × Value → H} {W : World} {r : Reach} {b0 base : Nat} {held : Bool} {v : Value} {d : DataW H} {p : List MemPlace}
    (hval : Value.okWide Tryz.prog W r b0 23 v) (h : DataW.Trod enc Tryz.prog W base (fun _ => true) held 23 v d p) : ∃ xs : List Ins, Inss W v xs ∧ ∀ j, j < xs.length → InsWf (ith xs j) := by
  obtain ⟨a, len, cap, rfl⟩ := okWide_slice Tryz.underlying23 hval
  obtain ⟨fuel, hf⟩ := h
  have hf : DataW.trod enc Tryz.prog W base (fun _ => true) held fuel 23 [.slice a len cap] = some (d, p) := by simpa [Value.cells] using hf
  have hC : Tryz.prog.cellsOf 47 = 8 := by kernel_rfl
  rcases Go.Deep.open_slice Tryz.underlying23 hf with ⟨hcs, hx⟩ | ⟨a', len', cap', m, n, D, Pl, hcs, _, hl, hm, hmm, _, hel⟩
  · simp at hcs
    obtain ⟨rfl, rfl, rfl⟩ := hcs
    exact ⟨[], Inss.nil W, fun j hj => by cases hj⟩
  · simp at hcs
    obtain ⟨rfl, rfl, rfl⟩ := hcs
    simp only [if_true] at hmm
    obtain ⟨b, off, sp⟩ := a'
    by_cases h0 : len = 0
    · subst h0
      refine ⟨[], ⟨_, cap, rfl, Nat.zero_le _, hm, fun h => (by cases h), fun a ha j u hu => by simp [icl] at hu⟩, fun j hj => by cases hj⟩
    · have hs : sp = none := by
        obtain ⟨cs', h1, h2⟩ := hel 0 (by omega)
        rw [hC] at h1
        obtain ⟨_, hlen, hat⟩ := World.cells?_some h1
        have h0 := hat 0 (by omega)
        rw [List.getElem?_eq_getElem (by omega)] at h0
        simpa [Addr.add] using World.cell?_spot h0
      subst hs
      have key : ∀ j, j < len → ∃ x : Ins, InsWf x ∧ At8 W b (off + j * 8) x := fun j hj => by
        obtain ⟨cs', h1, h2⟩ := hel j (by omega)
        rw [hC] at h1
        obtain ⟨_, hlen, hat⟩ := World.cells?_some h1
        match cs', hlen with
        | [c0, c1, c2, c3, c4, c5, c6, c7], _ =>
          obtain ⟨x, wf, rfl, rfl, rfl, rfl, rfl, rfl, rfl, rfl⟩ := open_ins_cells h2
          have e : ∀ i, ((⟨b, off, none⟩ : Addr).add (j * 8)).add i = ⟨b, off + j * 8 + i, none⟩ := fun i => by rw [add_none, add_none]
          have h0 := hat 0 (by omega)
          have h1 := hat 1 (by omega)
          have h2 := hat 2 (by omega)
          have h3 := hat 3 (by omega)
          have h4 := hat 4 (by omega)
          have h5 := hat 5 (by omega)
          have h6 := hat 6 (by omega)
          have h7 := hat 7 (by omega)
          rw [e] at h0 h1 h2 h3 h4 h5 h6 h7
          exact ⟨x, wf, h0, h1, h2, h3, h4, h5, h6, h7⟩
      have el : ((List.range len).map fun j => if h : j < len then (key j h).choose else noIns).length = len := by simp
      have ej : ∀ j (hj : j < len), ith ((List.range len).map fun j => if h : j < len then (key j h).choose else noIns) j = (key j hj).choose := fun j hj => by simp [ith, List.getD, hj]
      refine ⟨(List.range len).map fun j => if h : j < len then (key j h).choose else noIns, ?_, fun j hj => ?_⟩
      · have := inss_mk (w := W) (b := b) (off := off) (cap := cap) (l := (List.range len).map fun j => if h : j < len then (key j h).choose else noIns) (by rw [el]; exact hl) hm fun j hj => by
          rw [el] at hj
          rw [ej j hj]; exact (key j hj).choose_spec.2
        rwa [el] at this
      · rw [el] at hj
        rw [ej j hj]; exact (key j hj).choose_spec.1
end Go.Proofs.YthfkmackodbmkaaGreatDoor
