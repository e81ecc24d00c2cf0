/- Instructions have just the bytes that the document tells, and bytes are just these instructions (InsBytes). -/
import Derived.Test.YtmkhcgfbeeimaaaDoorInsLawR
namespace Go.Proofs.YtmkhcgfbeeimaaaDoor
open Go.RowKit
set_option linter.unusedVariables false
set_option linter.unusedSimpArgs false
set_option maxRecDepth 100000

set_option maxHeartbeats 8000000 in
theorem insBytesOf (v u : Value) (l : List Ins) (bs : List Int) (w : World) (T : Tab w) (h : Inss w v l) (hw : ∀ j, j < l.length → InsWf (ith l j)) (hb : Bs w u bs) (ho : Oct bs) : Calls Tryd.prog 4 #[v, u] w (Says true w) := by
  obtain ⟨ao, cap, hsh⟩ := h.shape
  obtain ⟨au, cu, hsu⟩ := hb.shape
  have H := Lib.hid h
  have HB := Lib.hid hb
  have hl := h.len
  have hlb := hb.len
  subst hsh hsu
  have HT := Lib.hid T
  have HW := Lib.hid hw
  have HO := Lib.hid ho
  clear h T hw hb ho
  generalize hn : l.length = n at *
  generalize hm : bs.length = m at *
  have hN := Lib.hid hn
  have hM := Lib.hid hm
  clear hn hm
  go_enter Tryd.func4, Tryd.ntmps4
  go_wp2_with fail
  refine (awake _ HT.out).mono ?_; rintro e w1 ⟨rfl, b1⟩
  have B1 := Lib.hid b1
  have H1 := Lib.hid ((H.out).past b1)
  have D1 := Lib.hid ((HB.out).past b1)
  have T1 := Lib.hid ((HT.out).past b1)
  clear b1
  by_cases hbig : 400 < n
  · have d0 : decide (400 < n) = true := by simpa using hbig
    go_wp2_with fail
    go_ret
    exact ⟨rfl, B1.out⟩
  have d0 : decide (400 < n) = false := by simpa using hbig
  by_cases hbig2 : 4000 < m
  · have d1 : decide (4000 < m) = true := by simpa using hbig2
    go_wp2_with fail
    go_ret
    exact ⟨rfl, B1.out⟩
  have d1 : decide (4000 < m) = false := by simpa using hbig2
  have HL6 := Lib.hid (show l.length ≤ 1000000 by have := hN.out; omega)
  have HL9 := Lib.hid (show bs.length ≤ 140737488351232 by have := hM.out; omega)
  have HWL := Lib.hid (show ∀ j, j < l.length → InsWf (ith l j) by have := hN.out; rw [this]; exact HW.out)
  obtain ⟨pl, hpl⟩ : ∃ x, x = putI l := ⟨_, rfl⟩
  obtain ⟨pe, hpe⟩ : ∃ x, x = putE l := ⟨_, rfl⟩
  obtain ⟨gl, hgl⟩ : ∃ x, x = getI bs := ⟨_, rfl⟩
  obtain ⟨ge, hge⟩ : ∃ x, x = getE bs := ⟨_, rfl⟩
  have PP := Lib.hid (fun v W (T : Tab W) (h : Inss W v l) => putP v l W T h HL6.out HWL.out)
  have PR := Lib.hid (fun v W (h : Inss W v l) => refPut v l W h HL6.out)
  have GP := Lib.hid (fun v W (T : Tab W) (h : Bs W v bs) => getP v bs W T h HO.out HL9.out)
  have GR := Lib.hid (fun v W (h : Bs W v bs) => refGet v bs W h HO.out HL9.out)
  rw [← hpl, ← hpe] at PP PR
  rw [← hgl, ← hge] at GP GR
  clear hpl hpe hgl hge
  go_wp2_with fail
  refine (lentIns _ l _ H1.out HL6.out).mono ?_; rintro e w2 hle
  obtain ⟨g2, rfl, l2, b2⟩ := LendsI.shaped hle hN.out
  have B2 := Lib.hid ((B1.out).trans (b2.mono (B1.out).size))
  have H2 := Lib.hid ((H1.out).past b2)
  have D2 := Lib.hid ((D1.out).past b2)
  have T2 := Lib.hid ((T1.out).past b2)
  have L2 := Lib.hid l2
  clear b2 l2 hle
  go_wp2_with fail
  refine (lentBytes _ bs _ D2.out HL9.out).mono ?_; rintro e w3 hle
  obtain ⟨g3, rfl, l3, b3⟩ := Lends.shaped hle hM.out
  have B3 := Lib.hid ((B2.out).trans (b3.mono (B2.out).size))
  have H3 := Lib.hid ((H2.out).past b3)
  have D3 := Lib.hid ((D2.out).past b3)
  have T3 := Lib.hid ((T2.out).past b3)
  have L3 := Lib.hid ((L2.out).past b3)
  have M3 := Lib.hid l3
  clear b3 l3 hle
  go_wp2_with fail
  refine ((PP.out) _ _ T3.out (L3.out).inss).mono ?_; rintro e w4 ⟨v4, rfl, o4, b4⟩
  have B4 := Lib.hid ((B3.out).trans (b4.mono (B3.out).size))
  have H4 := Lib.hid ((H3.out).past b4)
  have D4 := Lib.hid ((D3.out).past b4)
  have T4 := Lib.hid ((T3.out).past b4)
  have L4 := Lib.hid ((L3.out).past b4)
  have M4 := Lib.hid ((M3.out).past b4)
  have P4 := Lib.hid o4.bs
  clear b4 o4
  go_wp2_with fail
  refine ((PR.out) _ _ H4.out).mono ?_; rintro e w5 ⟨v5, rfl, o5, b5⟩
  have B5 := Lib.hid ((B4.out).trans (b5.mono (B4.out).size))
  have H5 := Lib.hid ((H4.out).past b5)
  have D5 := Lib.hid ((D4.out).past b5)
  have T5 := Lib.hid ((T4.out).past b5)
  have L5 := Lib.hid ((L4.out).past b5)
  have M5 := Lib.hid ((M4.out).past b5)
  have P5 := Lib.hid ((P4.out).past b5)
  have Q5 := Lib.hid o5.bs
  clear b5 o5
  go_wp2_with fail
  refine ((GP.out) _ _ T5.out (M5.out).bs).mono ?_; rintro e w6 ⟨v6, rfl, o6, b6⟩
  have B6 := Lib.hid ((B5.out).trans (b6.mono (B5.out).size))
  have H6 := Lib.hid ((H5.out).past b6)
  have D6 := Lib.hid ((D5.out).past b6)
  have L6 := Lib.hid ((L5.out).past b6)
  have M6 := Lib.hid ((M5.out).past b6)
  have P6 := Lib.hid ((P5.out).past b6)
  have Q6 := Lib.hid ((Q5.out).past b6)
  have R6 := Lib.hid o6.inss
  clear b6 o6
  go_wp2_with fail
  refine ((GR.out) _ _ D6.out).mono ?_; rintro e w7 ⟨v7, rfl, o7, b7⟩
  have B7 := Lib.hid ((B6.out).trans (b7.mono (B6.out).size))
  have H7 := Lib.hid ((H6.out).past b7)
  have D7 := Lib.hid ((D6.out).past b7)
  have L7 := Lib.hid ((L6.out).past b7)
  have M7 := Lib.hid ((M6.out).past b7)
  have P7 := Lib.hid ((P6.out).past b7)
  have Q7 := Lib.hid ((Q6.out).past b7)
  have R7 := Lib.hid ((R6.out).past b7)
  have S7 := Lib.hid o7.inss
  clear b7 o7
  go_wp2_with fail
  refine (sameBytes_yes P7.out Q7.out rfl).mono ?_; rintro e w8 ⟨rfl, b8⟩
  have B8 := Lib.hid ((B7.out).trans (b8.mono (B7.out).size))
  have H8 := Lib.hid ((H7.out).past b8)
  have D8 := Lib.hid ((D7.out).past b8)
  have L8 := Lib.hid ((L7.out).past b8)
  have M8 := Lib.hid ((M7.out).past b8)
  have R8 := Lib.hid ((R7.out).past b8)
  have S8 := Lib.hid ((S7.out).past b8)
  clear b8
  go_wp2_with fail
  refine (sameIns _ _ gl _ R8.out S8.out).mono ?_; rintro e w9 ⟨rfl, st9⟩
  have B9 := Lib.hid ((B8.out).trans (st9.below w.heap.size))
  have H9 := Lib.hid ((H8.out).past (st9.below _))
  have D9 := Lib.hid ((D8.out).past (st9.below _))
  have L9 := Lib.hid ((L8.out).past (st9.below _))
  have M9 := Lib.hid ((M8.out).past (st9.below _))
  clear st9
  go_wp2_with fail
  refine (keptIns _ _ _ l _ L9.out H9.out HL6.out).mono ?_; rintro e wa ⟨rfl, ba⟩
  have Ba := Lib.hid ((B9.out).trans (ba.mono (B9.out).size))
  have Da := Lib.hid ((D9.out).past ba)
  have Ma := Lib.hid ((M9.out).past ba)
  clear ba
  go_wp2_with fail
  refine (keptBytes _ _ _ bs _ Ma.out Da.out HL9.out).mono ?_; rintro e wb ⟨rfl, stb⟩
  go_wp2_with fail
  go_ret
  exact ⟨rfl, (Ba.out).trans (stb.below w.heap.size)⟩
end Go.Proofs.YtmkhcgfbeeimaaaDoor
