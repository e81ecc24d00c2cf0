/- The document's examples; instructions are right, jump, are followed as the document tells (InsRight). -/
import Derived.Test.YtmkhcgfbeeimaaaDoorInsNext
import Derived.Test.YtmkhcgfbeeimaaaDoorInsLent
import Derived.Test.YtmkhcgfbeeimaaaDoorInsGet
import Derived.Test.YtmkhcgfbeeimaaaDoorInsRefPut
import Derived.Test.YtmkhcgfbeeimaaaDoorInsRefGet
namespace Go.Proofs.YtmkhcgfbeeimaaaDoor
open Go.RowKit
set_option linter.unusedVariables false
set_option linter.unusedSimpArgs false
set_option maxRecDepth 100000

def exI : List Ins := [⟨12, false, 0, 0, true, 0, 1, 0⟩, ⟨14, false, 3, 1, false, 12, 0, 2⟩, ⟨28, false, 0, 0, false, 0, 0, 0⟩]
def exB : List Int := [44, 0, 0, 0, 0, 0, 0, 1, 78, 49, 0, 12, 0, 0, 0, 0, 28, 0, 0, 0, 0, 0, 0, 0]
theorem ex_put : putE exI = 0 ∧ putI exI = exB := by decide
theorem ex_len : exI.length = 3 := rfl
theorem ex_wf : ∀ j, j < exI.length → InsWf (ith exI j) := fun j hj => (tame (rights_ith (l := exI) (by decide) hj)).wf
theorem ex_get : getE exB = 0 ∧ getI exB = exI := by
  have := get_put ex_put.1 3 (by decide)
  rw [ex_put.2] at this
  simpa [exI, exB] using this
theorem ex_next : nextI exI 1 = [2] := by decide
theorem inss_lit3 (w : World) : Inss (w.alloc (Obj.cells (icl exI).toArray 27)) (.slice (some ⟨w.heap.size, 0, none⟩) 3 3) exI := by
  refine ⟨_, 3, rfl, Nat.le_refl _, by unfold maxLen; decide, fun h => (by cases h), fun a ha j u hu => ?_⟩
  cases ha
  rw [add_none, cell_of_row _ _ (0 + j) _ _ _ (heap_alloc_new w _), Nat.zero_add]
  simpa using hu
theorem Inss.at0 {w : World} {ao : Option Addr} {n c : Nat} {l : List Ins} (h : Inss w (.slice ao n c) l) (hl : 0 < l.length) : ∃ b o, ao = some ⟨b, o, none⟩ ∧ At8 w b o (ith l 0) := by
  obtain ⟨b, off, cap, hv, -, -, -, cells⟩ := h.at hl
  cases hv
  exact ⟨b, off, rfl, by simpa using cells 0 hl⟩

theorem row_first {w : World} {b : Nat} (h : Inss w (.slice (some ⟨b, 0, none⟩) 3 3) exI) : At8 w b 0 ⟨12, false, 0, 0, true, 0, 1, 0⟩ := by
  obtain ⟨b', o, e, c⟩ := h.at0 (by decide)
  cases e
  exact c
theorem exP (v : Value) (w : World) (T : Tab w) (h : Inss w v exI) : Calls Tryd.prog 19 #[v] w fun e w' => ∃ a c, e = .returned (.tuple #[.slice a 24 c, .int .i64 0]) ∧ Own w' w.heap.size (.slice a 24 c) exB ∧ Below w.heap.size w w' := by
  have := putP v exI w T h (by decide) ex_wf
  rw [ex_put.1, ex_put.2] at this
  refine this.mono fun e w' ⟨u, he, ho, hb⟩ => ?_
  obtain ⟨a, c, rfl⟩ := ho.bs.shape
  exact ⟨a, c, he, ho, hb⟩
theorem exG (v : Value) (w : World) (T : Tab w) (h : Bs w v exB) : Calls Tryd.prog 21 #[v] w fun e w' => ∃ a c, e = .returned (.tuple #[.slice a 3 c, .int .i64 0]) ∧ OwnI w' w.heap.size (.slice a 3 c) exI ∧ Below w.heap.size w w' := by
  have := getP v exB w T h (by rw [← ex_put.2]; unfold putI; rw [if_pos ex_put.1]; exact encs_oct (by decide)) (by decide)
  rw [ex_get.1, ex_get.2] at this
  refine this.mono fun e w' ⟨u, he, ho, hb⟩ => ?_
  obtain ⟨a, c, rfl⟩ := ho.shape
  exact ⟨a, c, he, ho, hb⟩
theorem exN (v : Value) (w : World) (h : Inss w v exI) : Calls Tryd.prog 14 #[v, .int .i64 1] w fun e w' => ∃ b o c, e = .returned (.slice (some ⟨b, o, none⟩) 1 c) ∧ w'.cell? ⟨b, o, none⟩ = some (.int .i64 2) ∧ Below w.heap.size w w' := by
  have := nextP v exI 1 w h (by decide) ex_wf
  rw [ex_next] at this
  refine this.mono fun e w' ⟨u, he, hi, hb⟩ => ?_
  obtain ⟨b, o, c, rfl, -, cells⟩ := hi.at (by decide)
  exact ⟨b, o, c, he, cells 0 (by decide), hb⟩

set_option maxHeartbeats 8000000 in
theorem awake (w : World) (T : Tab w) : Calls Tryd.prog 8 #[] w (Says true w) := by
  have HT1 := Lib.hid (T.alloc (Obj.cells #[.int .u8 12, .bool false, .int .i64 0, .int .i64 0, .bool true, .int .i64 0, .int .i64 1, .int .i64 0, .int .u8 14, .bool false, .int .i64 3, .int .i64 1, .bool false, .int .i64 12, .int .i64 0, .int .i64 2, .int .u8 28, .bool false, .int .i64 0, .int .i64 0, .bool false, .int .i64 0, .int .i64 0, .int .i64 0] 27))
  have HI1 := Lib.hid (show Inss (w.alloc (Obj.cells #[.int .u8 12, .bool false, .int .i64 0, .int .i64 0, .bool true, .int .i64 0, .int .i64 1, .int .i64 0, .int .u8 14, .bool false, .int .i64 3, .int .i64 1, .bool false, .int .i64 12, .int .i64 0, .int .i64 2, .int .u8 28, .bool false, .int .i64 0, .int .i64 0, .bool false, .int .i64 0, .int .i64 0, .int .i64 0] 27)) (.slice (some ⟨w.heap.size, 0, none⟩) 3 3) exI from inss_lit3 w)
  have HB1 := Lib.hid (alloc_below w (Obj.cells #[.int .u8 12, .bool false, .int .i64 0, .int .i64 0, .bool true, .int .i64 0, .int .i64 1, .int .i64 0, .int .u8 14, .bool false, .int .i64 3, .int .i64 1, .bool false, .int .i64 12, .int .i64 0, .int .i64 2, .int .u8 28, .bool false, .int .i64 0, .int .i64 0, .bool false, .int .i64 0, .int .i64 0, .int .i64 0] 27))
  clear T
  go_enter Tryd.func8, Tryd.ntmps8
  go_wp2_with fail
  refine (exP _ _ HT1.out HI1.out).mono ?_; rintro e w1 ⟨a1, c1, rfl, o1, b1⟩
  have HT2 := Lib.hid ((HT1.out).past b1)
  have HI2 := Lib.hid ((HI1.out).past b1)
  have HB2 := Lib.hid ((HB1.out).trans (b1.mono (HB1.out).size))
  have HO2 := Lib.hid o1.bs
  clear b1 o1
  go_wp2_with fail
  refine (exG _ _ HT2.out HO2.out).mono ?_; rintro e w2 ⟨a2, c2, rfl, o2, b2⟩
  have HB3 := Lib.hid ((HB2.out).trans (b2.mono (HB2.out).size))
  have HI3 := Lib.hid (((HI2.out).past b2).alloc (Obj.cells #[.int .u8 44, .int .u8 0, .int .u8 0, .int .u8 0, .int .u8 0, .int .u8 0, .int .u8 0, .int .u8 1, .int .u8 78, .int .u8 49, .int .u8 0, .int .u8 12, .int .u8 0, .int .u8 0, .int .u8 0, .int .u8 0, .int .u8 28, .int .u8 0, .int .u8 0, .int .u8 0, .int .u8 0, .int .u8 0, .int .u8 0, .int .u8 0] 5))
  have HO3 := Lib.hid (((HO2.out).past b2).alloc (Obj.cells #[.int .u8 44, .int .u8 0, .int .u8 0, .int .u8 0, .int .u8 0, .int .u8 0, .int .u8 0, .int .u8 1, .int .u8 78, .int .u8 49, .int .u8 0, .int .u8 12, .int .u8 0, .int .u8 0, .int .u8 0, .int .u8 0, .int .u8 28, .int .u8 0, .int .u8 0, .int .u8 0, .int .u8 0, .int .u8 0, .int .u8 0, .int .u8 0] 5))
  have HM3 := Lib.hid ((o2.inss).alloc (Obj.cells #[.int .u8 44, .int .u8 0, .int .u8 0, .int .u8 0, .int .u8 0, .int .u8 0, .int .u8 0, .int .u8 1, .int .u8 78, .int .u8 49, .int .u8 0, .int .u8 12, .int .u8 0, .int .u8 0, .int .u8 0, .int .u8 0, .int .u8 28, .int .u8 0, .int .u8 0, .int .u8 0, .int .u8 0, .int .u8 0, .int .u8 0, .int .u8 0] 5))
  have HB4 := Lib.hid ((HB3.out).alloc (HB3.out).size (Obj.cells #[.int .u8 44, .int .u8 0, .int .u8 0, .int .u8 0, .int .u8 0, .int .u8 0, .int .u8 0, .int .u8 1, .int .u8 78, .int .u8 49, .int .u8 0, .int .u8 12, .int .u8 0, .int .u8 0, .int .u8 0, .int .u8 0, .int .u8 28, .int .u8 0, .int .u8 0, .int .u8 0, .int .u8 0, .int .u8 0, .int .u8 0, .int .u8 0] 5))
  have HL3 := Lib.hid (show Bs (w2.alloc (Obj.cells #[.int .u8 44, .int .u8 0, .int .u8 0, .int .u8 0, .int .u8 0, .int .u8 0, .int .u8 0, .int .u8 1, .int .u8 78, .int .u8 49, .int .u8 0, .int .u8 12, .int .u8 0, .int .u8 0, .int .u8 0, .int .u8 0, .int .u8 28, .int .u8 0, .int .u8 0, .int .u8 0, .int .u8 0, .int .u8 0, .int .u8 0, .int .u8 0] 5)) (.slice (some ⟨w2.heap.size, 0, none⟩) 24 24) exB from bs_list w2 exB (by decide))
  clear b2 o2
  go_wp2_with fail
  refine (exN _ _ HI3.out).mono ?_; rintro e w3 ⟨b5, p5, c5, rfl, h5, bb5⟩
  have HI4 := Lib.hid ((HI3.out).past bb5)
  have HO4 := Lib.hid ((HO3.out).past bb5)
  have HM4 := Lib.hid ((HM3.out).past bb5)
  have HL4 := Lib.hid ((HL3.out).past bb5)
  have HB5 := Lib.hid ((HB4.out).trans (bb5.mono (HB4.out).size))
  have H5 := Lib.hid h5
  clear bb5 h5
  go_wp2_with fail
  refine (sameBytes_yes HO4.out HL4.out rfl).mono ?_; rintro e w6 ⟨rfl, b6⟩
  have HB6 := Lib.hid ((HB5.out).trans (b6.mono (HB5.out).size))
  have HI6 := Lib.hid ((HI4.out).past b6)
  have HM6 := Lib.hid ((HM4.out).past b6)
  have H6 := Lib.hid (cellP H5.out b6)
  clear b6
  go_wp2_with fail
  refine (sameIns _ _ exI _ HI6.out HM6.out).mono ?_; rintro e w7 ⟨rfl, st7⟩
  have HB7 := Lib.hid ((HB6.out).trans (st7.below w.heap.size))
  obtain ⟨x0, x1, x2, x3, x4, x5, x6, x7⟩ := row_first ((HI6.out).past (st7.below _))
  have h7 := cellP H6.out (st7.below _)
  clear st7
  go_wp2_with fail
  refine (rightP ⟨12, false, 0, 0, true, 0, 1, 0⟩ (by decide) (by decide) _).mono ?_; rintro e w8 ⟨rfl, b8⟩
  go_wp2_with fail
  go_ret
  exact ⟨by first | rfl | (simp; done) | (rw [show right ⟨12, false, 0, 0, true, 0, 1, 0⟩ = true from by decide]; done), (HB7.out).trans (b8.mono (HB7.out).size)⟩
end Go.Proofs.YtmkhcgfbeeimaaaDoor
