/- Bags: whether all lists in one lie apart; rows of bytes in one. -/
import Derived.Test.YtknkmblacaaegaaDoorFlat
import Derived.Test.YtknkmblacaaegaaDoorFlatNil
namespace Go.Proofs.YtknkmblacaaegaaDoor
open Go.RowKit
set_option linter.unusedVariables false
set_option linter.unusedSimpArgs false

theorem bagTag : ¬ byteTag 63 := by
  rintro (h | ⟨n, h⟩)
  · cases h
  · rw [Tryd.underlying63] at h; cases h
/-- Block b is a bag that has the list v of rows of bytes, and no other list. -/
def Bag (w : World) (b : Nat) (v : Value) : Prop := w.heap[b]? = some (.cells #[.slice none 0 0, .slice none 0 0, .slice none 0 0, .slice none 0 0, .slice none 0 0, v, .slice none 0 0, .slice none 0 0, .slice none 0 0, .slice none 0 0, .slice none 0 0, .slice none 0 0, .slice none 0 0, .slice none 0 0, .slice none 0 0, .slice none 0 0, .slice none 0 0, .slice none 0 0, .slice none 0 0, .slice none 0 0, .slice none 0 0] 63 (0, 0))
theorem Bag.lt {w : World} {b : Nat} {v : Value} (h : Bag w b v) : b < w.heap.size := (Array.getElem?_eq_some_iff.1 h).1
theorem Bag.cell {w : World} {b : Nat} {v : Value} (h : Bag w b v) : w.cell? ⟨b, 0, none⟩ = some (.slice none 0 0) ∧ w.cell? ⟨b, 1, none⟩ = some (.slice none 0 0) ∧ w.cell? ⟨b, 2, none⟩ = some (.slice none 0 0) ∧ w.cell? ⟨b, 3, none⟩ = some (.slice none 0 0) ∧ w.cell? ⟨b, 4, none⟩ = some (.slice none 0 0) ∧ w.cell? ⟨b, 5, none⟩ = some (v) ∧ w.cell? ⟨b, 6, none⟩ = some (.slice none 0 0) ∧ w.cell? ⟨b, 7, none⟩ = some (.slice none 0 0) ∧ w.cell? ⟨b, 8, none⟩ = some (.slice none 0 0) ∧ w.cell? ⟨b, 9, none⟩ = some (.slice none 0 0) ∧ w.cell? ⟨b, 10, none⟩ = some (.slice none 0 0) ∧ w.cell? ⟨b, 11, none⟩ = some (.slice none 0 0) ∧ w.cell? ⟨b, 12, none⟩ = some (.slice none 0 0) ∧ w.cell? ⟨b, 13, none⟩ = some (.slice none 0 0) ∧ w.cell? ⟨b, 14, none⟩ = some (.slice none 0 0) ∧ w.cell? ⟨b, 15, none⟩ = some (.slice none 0 0) ∧ w.cell? ⟨b, 16, none⟩ = some (.slice none 0 0) ∧ w.cell? ⟨b, 17, none⟩ = some (.slice none 0 0) ∧ w.cell? ⟨b, 18, none⟩ = some (.slice none 0 0) ∧ w.cell? ⟨b, 19, none⟩ = some (.slice none 0 0) ∧ w.cell? ⟨b, 20, none⟩ = some (.slice none 0 0) := by
  refine ⟨?_, ?_, ?_, ?_, ?_, ?_, ?_, ?_, ?_, ?_, ?_, ?_, ?_, ?_, ?_, ?_, ?_, ?_, ?_, ?_, ?_⟩ <;> (rw [cell_of_row w b _ _ _ _ h]; rfl)
theorem Bag.free {w : World} {b : Nat} {v : Value} (h : Bag w b v) (i : Nat) : w.frozen? ⟨b, i, none⟩ = false := by
  simp [World.frozen?, show w.heap[b]? = _ from h]
theorem Bag.past {w w' : World} {b : Nat} {v : Value} (h : Bag w b v) (hb : Below w.heap.size w w') : Bag w' b v := (hb.block b h.lt).trans h
theorem Bag.spares {w w' : World} {b : Nat} {v : Value} (h : Bag w b v) (hs : Spares w w') : Bag w' b v := (hs b _ _ _ h bagTag).trans h
theorem Bag.set {w : World} {b : Nat} {v : Value} (h : Bag w b v) (u : Value) : Bag (w.setCell ⟨b, 5, none⟩ u) b u := by
  unfold Bag at h ⊢; simp only [World.setCell, Array.getElem?_modify, h]; simp

/-- What the rows' looking gives. -/
def Looked (B : Nat) (w : World) (e : Ending) (w' : World) : Prop := e = .returned (.bool true) ∧ Below B w w' ∧ Spares w w'

set_option maxHeartbeats 4000000 in
set_option maxRecDepth 100000 in
theorem bagApart (b B : Nat) (v : Value) (w : World) (hb : Bag w b v) (hB : B ≤ w.heap.size)
    (F : ∀ w1, Below w.heap.size w w1 → Calls Tryd.prog 40 #[v] w1 (Looked B w1)) :
    Calls Tryd.prog 24 #[.pointer (some ⟨b, 0, none⟩)] w fun e w' => e = .returned (.bool true) ∧ Below B w w' := by
  have FF := fun w1 h => Lib.hid (F w1 h)
  have K0 := Lib.hid hb
  have hc0 := (hb.cell)
  obtain ⟨c0, -⟩ := hc0
  have D0 := Lib.hid (Below.refl w.heap.size w)
  clear hb F
  go_enter Tryd.func24, Tryd.ntmps24
  go_wp2_with fail
  refine (flatLimbs_nil _).mono ?_; rintro e w1 ⟨rfl, hb⟩
  have K1 := Lib.hid ((K0.out).past hb)
  have D1 := Lib.hid ((D0.out).trans (hb.mono (D0.out).size))
  have hc := (K1.out).cell
  obtain ⟨-, c1, -⟩ := hc
  clear hb c0
  go_wp2_with fail
  refine (flatWords_nil _).mono ?_; rintro e w2 ⟨rfl, hb⟩
  have K2 := Lib.hid ((K1.out).past hb)
  have D2 := Lib.hid ((D1.out).trans (hb.mono (D1.out).size))
  have hc := (K2.out).cell
  obtain ⟨-, -, c2, -⟩ := hc
  clear hb c1
  go_wp2_with fail
  refine (flatInts_nil _).mono ?_; rintro e w3 ⟨rfl, hb⟩
  have K3 := Lib.hid ((K2.out).past hb)
  have D3 := Lib.hid ((D2.out).trans (hb.mono (D2.out).size))
  have hc := (K3.out).cell
  obtain ⟨-, -, -, c3, -⟩ := hc
  clear hb c2
  go_wp2_with fail
  refine (flatLongs_nil _).mono ?_; rintro e w4 ⟨rfl, hb⟩
  have K4 := Lib.hid ((K3.out).past hb)
  have D4 := Lib.hid ((D3.out).trans (hb.mono (D3.out).size))
  have hc := (K4.out).cell
  obtain ⟨-, -, -, -, c4, -⟩ := hc
  clear hb c3
  go_wp2_with fail
  refine (flatTexts_nil _).mono ?_; rintro e w5 ⟨rfl, hb⟩
  have K5 := Lib.hid ((K4.out).past hb)
  have D5 := Lib.hid ((D4.out).trans (hb.mono (D4.out).size))
  have hc := (K5.out).cell
  obtain ⟨-, -, -, -, -, c5, -⟩ := hc
  clear hb c4
  go_wp2_with fail
  have q5 := FF _ D5.out
  refine (q5.out).mono ?_; rintro e w6 ⟨rfl, hb, hsp⟩
  have K6 := Lib.hid ((K5.out).spares hsp)
  have E6 := Lib.hid (((D5.out).mono hB).trans hb)
  clear hsp q5 FF
  have hc := (K6.out).cell
  obtain ⟨-, -, -, -, -, -, c6, -⟩ := hc
  clear hb c5
  go_wp2_with fail
  refine (flatTruths_nil _).mono ?_; rintro e w7 ⟨rfl, hb⟩
  have K7 := Lib.hid ((K6.out).past hb)
  have E7 := Lib.hid ((E6.out).trans (hb.mono (Nat.le_trans hB (E6.out).size)))
  have hc := (K7.out).cell
  obtain ⟨-, -, -, -, -, -, -, c7, -⟩ := hc
  clear hb c6
  go_wp2_with fail
  refine (flatIns_nil _).mono ?_; rintro e w8 ⟨rfl, hb⟩
  have K8 := Lib.hid ((K7.out).past hb)
  have E8 := Lib.hid ((E7.out).trans (hb.mono (Nat.le_trans hB (E7.out).size)))
  have hc := (K8.out).cell
  obtain ⟨-, -, -, -, -, -, -, -, c8, -⟩ := hc
  clear hb c7
  go_wp2_with fail
  refine (flatSpans_nil _).mono ?_; rintro e w9 ⟨rfl, hb⟩
  have K9 := Lib.hid ((K8.out).past hb)
  have E9 := Lib.hid ((E8.out).trans (hb.mono (Nat.le_trans hB (E8.out).size)))
  have hc := (K9.out).cell
  obtain ⟨-, -, -, -, -, -, -, -, -, c9, -⟩ := hc
  clear hb c8
  go_wp2_with fail
  refine (flatKnowns_nil _).mono ?_; rintro e w10 ⟨rfl, hb⟩
  have K10 := Lib.hid ((K9.out).past hb)
  have E10 := Lib.hid ((E9.out).trans (hb.mono (Nat.le_trans hB (E9.out).size)))
  have hc := (K10.out).cell
  obtain ⟨-, -, -, -, -, -, -, -, -, -, c10, -⟩ := hc
  clear hb c9
  go_wp2_with fail
  refine (flatPlaces_nil _).mono ?_; rintro e w11 ⟨rfl, hb⟩
  have K11 := Lib.hid ((K10.out).past hb)
  have E11 := Lib.hid ((E10.out).trans (hb.mono (Nat.le_trans hB (E10.out).size)))
  have hc := (K11.out).cell
  obtain ⟨-, -, -, -, -, -, -, -, -, -, -, c11, -⟩ := hc
  clear hb c10
  go_wp2_with fail
  refine (flatFaults_nil _).mono ?_; rintro e w12 ⟨rfl, hb⟩
  have K12 := Lib.hid ((K11.out).past hb)
  have E12 := Lib.hid ((E11.out).trans (hb.mono (Nat.le_trans hB (E11.out).size)))
  have hc := (K12.out).cell
  obtain ⟨-, -, -, -, -, -, -, -, -, -, -, -, c12, -⟩ := hc
  clear hb c11
  go_wp2_with fail
  refine (flatOutcomes_nil _).mono ?_; rintro e w13 ⟨rfl, hb⟩
  have K13 := Lib.hid ((K12.out).past hb)
  have E13 := Lib.hid ((E12.out).trans (hb.mono (Nat.le_trans hB (E12.out).size)))
  have hc := (K13.out).cell
  obtain ⟨-, -, -, -, -, -, -, -, -, -, -, -, -, c13, -⟩ := hc
  clear hb c12
  go_wp2_with fail
  refine (flatFlats_nil _).mono ?_; rintro e w14 ⟨rfl, hb⟩
  have K14 := Lib.hid ((K13.out).past hb)
  have E14 := Lib.hid ((E13.out).trans (hb.mono (Nat.le_trans hB (E13.out).size)))
  have hc := (K14.out).cell
  obtain ⟨-, -, -, -, -, -, -, -, -, -, -, -, -, -, c14, -⟩ := hc
  clear hb c13
  go_wp2_with fail
  refine (flatBundles_nil _).mono ?_; rintro e w15 ⟨rfl, hb⟩
  have K15 := Lib.hid ((K14.out).past hb)
  have E15 := Lib.hid ((E14.out).trans (hb.mono (Nat.le_trans hB (E14.out).size)))
  have hc := (K15.out).cell
  obtain ⟨-, -, -, -, -, -, -, -, -, -, -, -, -, -, -, c15, -⟩ := hc
  clear hb c14
  go_wp2_with fail
  refine (flatEntries_nil _).mono ?_; rintro e w16 ⟨rfl, hb⟩
  have K16 := Lib.hid ((K15.out).past hb)
  have E16 := Lib.hid ((E15.out).trans (hb.mono (Nat.le_trans hB (E15.out).size)))
  have hc := (K16.out).cell
  obtain ⟨-, -, -, -, -, -, -, -, -, -, -, -, -, -, -, -, c16, -⟩ := hc
  clear hb c15
  go_wp2_with fail
  refine (flatHeldRow_nil _).mono ?_; rintro e w17 ⟨rfl, hb⟩
  have K17 := Lib.hid ((K16.out).past hb)
  have E17 := Lib.hid ((E16.out).trans (hb.mono (Nat.le_trans hB (E16.out).size)))
  have hc := (K17.out).cell
  obtain ⟨-, -, -, -, -, -, -, -, -, -, -, -, -, -, -, -, -, c17, -⟩ := hc
  clear hb c16
  go_wp2_with fail
  refine (flatRegistries_nil _).mono ?_; rintro e w18 ⟨rfl, hb⟩
  have K18 := Lib.hid ((K17.out).past hb)
  have E18 := Lib.hid ((E17.out).trans (hb.mono (Nat.le_trans hB (E17.out).size)))
  have hc := (K18.out).cell
  obtain ⟨-, -, -, -, -, -, -, -, -, -, -, -, -, -, -, -, -, -, c18, -⟩ := hc
  clear hb c17
  go_wp2_with fail
  refine (flatLetters_nil _).mono ?_; rintro e w19 ⟨rfl, hb⟩
  have K19 := Lib.hid ((K18.out).past hb)
  have E19 := Lib.hid ((E18.out).trans (hb.mono (Nat.le_trans hB (E18.out).size)))
  have hc := (K19.out).cell
  obtain ⟨-, -, -, -, -, -, -, -, -, -, -, -, -, -, -, -, -, -, -, c19, -⟩ := hc
  clear hb c18
  go_wp2_with fail
  refine (flatSteps_nil _).mono ?_; rintro e w20 ⟨rfl, hb⟩
  have K20 := Lib.hid ((K19.out).past hb)
  have E20 := Lib.hid ((E19.out).trans (hb.mono (Nat.le_trans hB (E19.out).size)))
  have hc := (K20.out).cell
  obtain ⟨-, -, -, -, -, -, -, -, -, -, -, -, -, -, -, -, -, -, -, -, c20⟩ := hc
  clear hb c19
  go_wp2_with fail
  refine (flatTales_nil _).mono ?_; rintro e w21 ⟨rfl, hb⟩
  have K21 := Lib.hid ((K20.out).past hb)
  have E21 := Lib.hid ((E20.out).trans (hb.mono (Nat.le_trans hB (E20.out).size)))
  go_wp2_with fail
  go_ret
  exact ⟨rfl, E21.out⟩
end Go.Proofs.YtknkmblacaaegaaDoor
