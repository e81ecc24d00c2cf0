/- Instructions have just the text that the document tells (TextShows). -/
import Derived.Test.YthfkmackodbmkaaGreatDoorTextAwake
import Derived.Test.YthfkmackodbmkaaGreatDoorTextRefShow2
namespace Go.Proofs.YthfkmackodbmkaaGreatDoor
open Go.RowKit
set_option linter.unusedVariables false
set_option linter.unusedSimpArgs false
set_option maxRecDepth 100000
set_option maxHeartbeats 4000000

theorem LendsI.shaped {l : List Ins} {w w' : World} {e : Ending} (h : LendsI l w e w') {n : Nat} (hn : l.length = n) : ∃ g, e = .returned (.slice (some ⟨g, 0, none⟩) n (n + 12)) ∧ LentI w' w.heap.size (.slice (some ⟨g, 0, none⟩) n (n + 12)) l ∧ Below w.heap.size w w' := by
  obtain ⟨v, rfl, hl, hb⟩ := h
  obtain ⟨g, rfl, h1, h2, h3⟩ := hl
  subst hn
  exact ⟨g, rfl, ⟨g, rfl, h1, h2, h3⟩, hb⟩
theorem textShowsOf (v : Value) (l : List Ins) (w : World) (L : Lay w) (h : Inss w v l) (wf : ∀ k, k < l.length → InsWf (ith l k)) :
    Calls Tryz.prog 4 #[v] w (Says true w) := by
  obtain ⟨ao, cap, hsh⟩ := h.shape
  have H := Lib.hid h
  have hlen := h.len
  subst hsh
  have HL := Lib.hid L
  have HW := Lib.hid wf
  clear h L wf
  generalize hn : l.length = n at *
  have hN := Lib.hid hn
  clear hn
  go_enter Tryz.func4, Tryz.ntmps4
  by_cases hbig : 5000 < n
  · have d0 : decide (5000 < n) = true := by simpa using hbig
    have d1 : decide ((5000 : Int) < n) = true := by simp; omega
    have AW := awake w HL.out
    go_wp2_with fail
    refine AW.mono ?_; rintro e w1 ⟨rfl, b1⟩
    go_wp2_with fail
    go_ret
    exact ⟨rfl, b1⟩
  have d0 : decide (5000 < n) = false := by simpa using hbig
  have d1 : decide ((5000 : Int) < n) = false := by simp; omega
  have HL6 := Lib.hid (show l.length ≤ 1000000 by have := hN.out; omega)
  have HWL := Lib.hid (show ∀ j, j < l.length → InsWf (ith l j) by have := hN.out; rw [this]; exact HW.out)
  obtain ⟨R, hR⟩ : ∃ R, R = showL l := ⟨_, rfl⟩
  have PP := Lib.hid (fun v W (h : Inss W v l) (L : Lay W) => showP v l W h HWL.out L)
  have PD := Lib.hid (fun v W (h : Inss W v l) (L : Lay W) => showDP v l W h HWL.out L)
  rw [← hR] at PP PD
  obtain ⟨t, er⟩ := R
  simp only at PP PD
  clear hR d0 hbig
  go_wp2_with fail
  refine (lentIns _ l _ H.out HL6.out).mono ?_; rintro e w2 hle
  obtain ⟨g2, rfl, l2, b2⟩ := LendsI.shaped hle hN.out
  have B2 := Lib.hid b2
  have H2 := Lib.hid ((H.out).past b2)
  have L2 := Lib.hid l2
  clear b2 l2 hle
  go_wp2_with fail
  refine ((PP.out) _ _ (L2.out).inss ((HL.out).past B2.out)).mono ?_; rintro e w3 ⟨rfl, b3⟩
  have B3 := Lib.hid ((B2.out).trans (b3.mono (B2.out).size))
  have H3 := Lib.hid ((H2.out).past b3)
  have L3 := Lib.hid ((L2.out).past b3)
  clear b3
  go_wp2_with fail
  refine ((PD.out) _ _ H3.out ((HL.out).past B3.out)).mono ?_; rintro e w4 ⟨rfl, b4⟩
  have B4 := Lib.hid ((B3.out).trans (b4.mono (B3.out).size))
  have H4 := Lib.hid ((H3.out).past b4)
  have L4 := Lib.hid ((L3.out).past b4)
  clear b4
  go_wp2_with fail
  refine (keptIns _ _ _ l _ L4.out H4.out HL6.out).mono ?_; rintro e wa ⟨rfl, ba⟩
  have Ba := Lib.hid ((B4.out).trans (ba.mono (B4.out).size))
  clear ba
  have AW := awake wa ((HL.out).past Ba.out)
  go_wp2_with fail
  refine AW.mono ?_; rintro e w1 ⟨rfl, b1⟩
  go_wp2_with fail
  go_ret
  exact ⟨rfl, (Ba.out).trans (b1.mono (Ba.out).size)⟩
end Go.Proofs.YthfkmackodbmkaaGreatDoor
