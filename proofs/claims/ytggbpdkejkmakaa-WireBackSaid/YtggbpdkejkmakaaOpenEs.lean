/- How a slice of entries that came in is opened; bytes and numbers with their ranges. -/
import Derived.Test.YtggbpdkejkmakaaNews
import Derived.Test.YtggbpdkejkmakaaBackMath2
import Derived.Deep.Slices
namespace Go.Proofs.Ytggbpdkejkmakaa
open Go.ChangeShapes Go.WideShapes Go.ChangeAt Go.RowKit
set_option linter.unusedVariables false
set_option linter.unusedSimpArgs false
set_option maxRecDepth 100000

/-- Bytes that came in, from the cell that holds them. -/
theorem open_bs_cell2 {H : Type} {enc : TypeId × Value → H} {W : World} {base : Nat} {held : Bool} {fuel : Nat} {v : Value} {y : DataW H × List MemPlace}
    (h : DataW.trod enc Try.prog W base (fun _ => true) held fuel 22 [v] = some y) : ∃ l : List Int, Bs W v l ∧ Oct l := by
  rcases open_ints Try.underlying22 Try.underlying5 (by kernel_rfl) h with ⟨hcs, hx⟩ | ⟨a, len, cap, zs, hcs, _, hl, hm, hz, hx, hcell, hwz⟩
  · simp at hcs
    subst hcs
    exact ⟨[], Bs.nil W, Oct.nil⟩
  · simp at hcs
    subst hcs
    simp only [if_true] at hz
    have hlen : (zs.take len).length = len := by rw [List.length_take]; omega
    refine ⟨zs.take len, ⟨some a, cap, by rw [hlen], by rw [hlen]; exact hl, hm, (by intro e; cases e), fun a' ha j hj => ?_⟩, fun n hn => u8_bounds (hwz n (List.mem_of_mem_take hn))⟩
    cases ha
    rw [hlen] at hj
    have hj' : j < zs.length := by omega
    rw [hcell j hj', nth_of (by rw [hlen]; exact hj)]
    simp [List.getD, hj', List.getElem_take]

/-- The entry's six cells, and what each holds. -/
theorem open_entry_cells2 {H : Type} {enc : TypeId × Value → H} {W : World} {base : Nat} {held : Bool} {fuel : Nat} {c0 c1 c2 c3 c4 c5 : Value} {x : DataW H × List MemPlace}
    (h : DataW.trod enc Try.prog W base (fun _ => true) held fuel 25 [c0, c1, c2, c3, c4, c5] = some x) :
    ∃ (t k v s : Int) (g : Bool) (l : List Int), c0 = .int .i64 t ∧ c1 = .int .u8 k ∧ c2 = .int .i64 v ∧ c3 = .int .i64 s ∧ c4 = .bool g ∧ Bs W c5 l ∧ Oct l ∧ 0 ≤ k ∧ k < 256 ∧
      (Lit.int .i64 t).wf = true ∧ (Lit.int .i64 v).wf = true ∧ (Lit.int .i64 s).wf = true := by
  obtain ⟨xs, n, _, rfl, hl, hlen, hf⟩ := DataW.trod_struct Try.underlying25 h
  match xs, hlen with
  | [y0, y1, y2, y3, y4, y5], _ =>
    have one : ∀ t, t = 3 ∨ t = 23 ∨ t = 4 ∨ t = 22 → Try.prog.cellsOf t = 1 := by
      rintro t (rfl | rfl | rfl | rfl) <;> kernel_rfl
    have h0 := hf 0 _ rfl
    have h1 := hf 1 _ rfl
    have h2 := hf 2 _ rfl
    have h3 := hf 3 _ rfl
    have h4 := hf 4 _ rfl
    have h5 := hf 5 _ rfl
    rw [one _ (by simp)] at h0 h1 h2 h3 h4 h5
    obtain ⟨t, e0, _, w0⟩ := DataW.trod_int Try.underlying3 h0
    obtain ⟨k, e1, _, w1⟩ := DataW.trod_int Try.underlying23 h1
    obtain ⟨v, e2, _, w2⟩ := DataW.trod_int Try.underlying3 h2
    obtain ⟨s, e3, _, w3⟩ := DataW.trod_int Try.underlying3 h3
    obtain ⟨g, e4, _⟩ := DataW.trod_bool Try.underlying4 h4
    obtain ⟨l, hb, hoct⟩ := open_bs_cell2 (v := c5) (y := y5) h5
    simp at e0 e1 e2 e3 e4
    exact ⟨t, k, v, s, g, l, e0, e1, e2, e3, e4, hb, hoct, (u8_bounds w1).1, (u8_bounds w1).2, w0, w2, w3⟩

theorem open_bs2 {H : Type} {enc : TypeId × Value → H} {W : World} {r : Reach} {b0 base : Nat} {held : Bool} {v : Value} {d : DataW H} {p : List MemPlace}
    (hval : Value.okWide Try.prog W r b0 22 v) (h : DataW.Trod enc Try.prog W base (fun _ => true) held 22 v d p) : ∃ l : List Int, Bs W v l ∧ Oct l := by
  obtain ⟨a, len, cap, rfl⟩ := okWide_slice Try.underlying22 hval
  obtain ⟨fuel, hf⟩ := h
  have hf : DataW.trod enc Try.prog W base (fun _ => true) held fuel 22 [.slice a len cap] = some (d, p) := by simpa [Value.cells] using hf
  rcases open_ints Try.underlying22 Try.underlying5 (by kernel_rfl) hf with ⟨hcs, hx⟩ | ⟨a', len', cap', zs, hcs, _, hl, hm, hz, hx, hcell, hwz⟩
  · simp at hcs
    obtain ⟨rfl, rfl, rfl⟩ := hcs
    exact ⟨[], Bs.nil W, Oct.nil⟩
  · simp at hcs
    obtain ⟨rfl, rfl, rfl⟩ := hcs
    simp only [if_true] at hz
    have hlen : (zs.take len).length = len := by rw [List.length_take]; omega
    refine ⟨zs.take len, ⟨some a', cap, by rw [hlen], by rw [hlen]; exact hl, hm, (by intro e; cases e), fun a2 ha j hj => ?_⟩, fun n hn => u8_bounds (hwz n (List.mem_of_mem_take hn))⟩
    cases ha
    rw [hlen] at hj
    have hj' : j < zs.length := by omega
    rw [hcell j hj', nth_of (by rw [hlen]; exact hj)]
    simp [List.getD, hj', List.getElem_take]

theorem open_is2 {H : Type} {enc : TypeId × Value → H} {W : World} {r : Reach} {b0 base : Nat} {held : Bool} {v : Value} {d : DataW H} {p : List MemPlace}
    (hval : Value.okWide Try.prog W r b0 37 v) (h : DataW.Trod enc Try.prog W base (fun _ => true) held 37 v d p) : ∃ l : List Int, Is W v l ∧ ∀ j, j < l.length → (Lit.int .i64 (nth l j)).wf = true := by
  obtain ⟨a, len, cap, rfl⟩ := okWide_slice Try.underlying37 hval
  obtain ⟨fuel, hf⟩ := h
  have hf : DataW.trod enc Try.prog W base (fun _ => true) held fuel 37 [.slice a len cap] = some (d, p) := by simpa [Value.cells] using hf
  rcases open_ints Try.underlying37 Try.underlying3 (by kernel_rfl) hf with ⟨hcs, hx⟩ | ⟨a', len', cap', zs, hcs, _, hl, hm, hz, hx, hcell, hwz⟩
  · simp at hcs
    obtain ⟨rfl, rfl, rfl⟩ := hcs
    exact ⟨[], ⟨none, 0, rfl, Nat.le_refl _, Nat.zero_le _, fun _ => rfl, fun _ h => by cases h⟩, fun j hj => by cases hj⟩
  · simp at hcs
    obtain ⟨rfl, rfl, rfl⟩ := hcs
    simp only [if_true] at hz
    have hlen : (zs.take len).length = len := by rw [List.length_take]; omega
    refine ⟨zs.take len, ⟨some a', cap, by rw [hlen], by rw [hlen]; exact hl, hm, (by intro e; cases e), fun a2 ha j hj => ?_⟩, fun j hj => ?_⟩
    · cases ha
      rw [hlen] at hj
      have hj' : j < zs.length := by omega
      rw [hcell j hj', nth_of (by rw [hlen]; exact hj)]
      simp [List.getD, hj', List.getElem_take]
    · rw [nth_of hj]
      exact hwz _ (List.mem_of_mem_take (List.getElem_mem hj))

theorem i64_bounds {n : Int} (h : (Lit.int .i64 n).wf = true) : -9223372036854775808 ≤ n ∧ n ≤ 9223372036854775807 := by
  simp [Lit.wf, IntKind.min, IntKind.max, IntKind.signed, IntKind.bits] at h
  omega

/-- An entry at a place in memory: u holds its bytes. -/
structure EntAt (w : World) (b o : Nat) (x : Ent) (u : Value) : Prop where
  c0 : w.cell? ⟨b, o, none⟩ = some (.int .i64 x.t)
  c1 : w.cell? ⟨b, o + 1, none⟩ = some (.int .u8 x.k)
  c2 : w.cell? ⟨b, o + 2, none⟩ = some (.int .i64 x.v)
  c3 : w.cell? ⟨b, o + 3, none⟩ = some (.int .i64 x.s)
  c4 : w.cell? ⟨b, o + 4, none⟩ = some (.bool x.g)
  c5 : w.cell? ⟨b, o + 5, none⟩ = some u
  bs : Bs w u x.d
/-- The numbers of an entry that came in. -/
structure EntWf (x : Ent) : Prop where
  t0 : -9223372036854775808 ≤ x.t
  t1 : x.t ≤ 9223372036854775807
  k0 : 0 ≤ x.k
  k1 : x.k ≤ 255
  v0 : -9223372036854775808 ≤ x.v
  v1 : x.v ≤ 9223372036854775807
  s0 : -9223372036854775808 ≤ x.s
  s1 : x.s ≤ 9223372036854775807
  oct : Oct x.d
def noEnt : Ent := ⟨0, 0, 0, 0, false, []⟩
def eth (xs : List Ent) (j : Nat) : Ent := xs.getD j noEnt
/-- Entries that came in. -/
def Es (w : World) (v : Value) (xs : List Ent) : Prop :=
  (xs = [] ∧ ∃ ao cap, v = .slice ao 0 cap) ∨ ∃ b off cap, v = .slice (some ⟨b, off, none⟩) xs.length cap ∧ xs.length ≤ cap ∧ cap ≤ maxLen ∧ ∀ j, j < xs.length → EntWf (eth xs j) ∧ ∃ u, EntAt w b (off + j * 6) (eth xs j) u
theorem Es.shape {w : World} {v : Value} {xs : List Ent} (h : Es w v xs) : ∃ ao cap, v = .slice ao xs.length cap := by
  rcases h with ⟨rfl, ao, cap, rfl⟩ | ⟨b, off, cap, rfl, -⟩
  · exact ⟨ao, cap, rfl⟩
  · exact ⟨_, cap, rfl⟩
theorem Es.len {w : World} {v : Value} {xs : List Ent} (h : Es w v xs) : xs.length ≤ 9223372036854775807 := by
  rcases h with ⟨rfl, _⟩ | ⟨b, off, cap, rfl, h1, h2, -⟩
  · simp
  · unfold maxLen at h2; omega
theorem EntAt.past {w w' : World} {b o : Nat} {x : Ent} {u : Value} (h : EntAt w b o x u) (hb : Below w.heap.size w w') : EntAt w' b o x u := by
  have hB := World.block_lt_of_cell? w _ h.c0
  exact ⟨(hb.cell (p := ⟨b, o, none⟩) hB).trans h.c0, (hb.cell (p := ⟨b, o + 1, none⟩) hB).trans h.c1, (hb.cell (p := ⟨b, o + 2, none⟩) hB).trans h.c2, (hb.cell (p := ⟨b, o + 3, none⟩) hB).trans h.c3, (hb.cell (p := ⟨b, o + 4, none⟩) hB).trans h.c4, (hb.cell (p := ⟨b, o + 5, none⟩) hB).trans h.c5, h.bs.past hb⟩
theorem Es.past {w w' : World} {v : Value} {xs : List Ent} (h : Es w v xs) (hb : Below w.heap.size w w') : Es w' v xs := by
  rcases h with h | ⟨b, off, cap, hv, h1, h2, h3⟩
  · exact Or.inl h
  · exact Or.inr ⟨b, off, cap, hv, h1, h2, fun j hj => by obtain ⟨hw, u, hu⟩ := h3 j hj; exact ⟨hw, u, hu.past hb⟩⟩
theorem Es.at {w : World} {v : Value} {xs : List Ent} (h : Es w v xs) {j : Nat} (hj : j < xs.length) : ∃ b off cap u, v = .slice (some ⟨b, off, none⟩) xs.length cap ∧ EntWf (eth xs j) ∧ EntAt w b (off + j * 6) (eth xs j) u := by
  rcases h with ⟨rfl, _⟩ | ⟨b, off, cap, hv, h1, h2, h3⟩
  · cases hj
  · obtain ⟨hw, u, hu⟩ := h3 j hj
    exact ⟨b, off, cap, u, hv, hw, hu⟩

theorem open_es {H : Type} {enc : TypeId × Value → H} {W : World} {r : Reach} {b0 base : Nat} {held : Bool} {v : Value} {d : DataW H} {p : List MemPlace}
    (hval : Value.okWide Try.prog W r b0 54 v) (h : DataW.Trod enc Try.prog W base (fun _ => true) held 54 v d p) : ∃ xs : List Ent, Es W v xs := by
  obtain ⟨a, len, cap, rfl⟩ := okWide_slice Try.underlying54 hval
  obtain ⟨fuel, hf⟩ := h
  have hf : DataW.trod enc Try.prog W base (fun _ => true) held fuel 54 [.slice a len cap] = some (d, p) := by simpa [Value.cells] using hf
  have hC : Try.prog.cellsOf 25 = 6 := by kernel_rfl
  rcases Go.Deep.open_slice Try.underlying54 hf with ⟨hcs, hx⟩ | ⟨a', len', cap', m, n, D, Pl, hcs, _, hl, hm, hmm, _, hel⟩
  · simp at hcs
    obtain ⟨rfl, rfl, rfl⟩ := hcs
    exact ⟨[], Or.inl ⟨rfl, none, 0, rfl⟩⟩
  · simp at hcs
    obtain ⟨rfl, rfl, rfl⟩ := hcs
    simp only [if_true] at hmm
    obtain ⟨b, off, sp⟩ := a'
    by_cases h0 : len = 0
    · subst h0
      exact ⟨[], Or.inl ⟨rfl, _, cap, rfl⟩⟩
    · have hs : sp = none := by
        obtain ⟨cs', h1, h2⟩ := hel 0 (by omega)
        rw [hC] at h1
        obtain ⟨_, hlen, hat⟩ := World.cells?_some h1
        have h0 := hat 0 (by omega)
        rw [List.getElem?_eq_getElem (by omega)] at h0
        simpa [Addr.add] using World.cell?_spot h0
      subst hs
      have key : ∀ j, j < len → ∃ x : Ent, EntWf x ∧ ∃ u, EntAt W b (off + j * 6) x u := fun j hj => by
        obtain ⟨cs', h1, h2⟩ := hel j (by omega)
        rw [hC] at h1
        obtain ⟨_, hlen, hat⟩ := World.cells?_some h1
        match cs', hlen with
        | [c0, c1, c2, c3, c4, c5], _ =>
          obtain ⟨t, k, x, s, g, l, rfl, rfl, rfl, rfl, rfl, hb, hoct, k0, k1, w0, w2, w3⟩ := open_entry_cells2 h2
          have e : ∀ i, ((⟨b, off, none⟩ : Addr).add (j * 6)).add i = ⟨b, off + j * 6 + i, none⟩ := fun i => by rw [add_none, add_none]
          have h0 := hat 0 (by omega)
          have h1 := hat 1 (by omega)
          have h2 := hat 2 (by omega)
          have h3 := hat 3 (by omega)
          have h4 := hat 4 (by omega)
          have h5 := hat 5 (by omega)
          rw [e] at h0 h1 h2 h3 h4 h5
          have b0 := i64_bounds w0
          have b2 := i64_bounds w2
          have b3 := i64_bounds w3
          exact ⟨⟨t, k, x, s, g, l⟩, ⟨b0.1, b0.2, k0, (by show k ≤ 255; omega), b2.1, b2.2, b3.1, b3.2, hoct⟩, c5, h0, h1, h2, h3, h4, h5, hb⟩
      refine ⟨(List.range len).map fun j => if h : j < len then (key j h).choose else noEnt, Or.inr ⟨b, off, cap, by simp, by simpa using hl, hm, fun j hj => ?_⟩⟩
      simp only [List.length_map, List.length_range] at hj
      have e : eth ((List.range len).map fun j => if h : j < len then (key j h).choose else noEnt) j = (key j hj).choose := by
        simp [eth, List.getD, hj]
      rw [e]
      obtain ⟨hw, u, hu⟩ := (key j hj).choose_spec
      exact ⟨hw, u, hu⟩
end Go.Proofs.Ytggbpdkejkmakaa
