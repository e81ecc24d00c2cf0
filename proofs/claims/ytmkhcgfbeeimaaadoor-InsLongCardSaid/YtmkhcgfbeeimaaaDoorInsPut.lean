/- The program: instructions' bytes. -/
import Derived.Test.YtmkhcgfbeeimaaaDoorInsRow
import Derived.Test.YtmkhcgfbeeimaaaDoorInsWord
import Derived.Deep.RegionHeld3
namespace Go.Proofs.YtmkhcgfbeeimaaaDoor
open Go.RowKit
set_option linter.unusedVariables false
set_option linter.unusedSimpArgs false
set_option maxRecDepth 100000

/-- e returns bytes and an Errno; what was there is as it was. -/
def Gave (l : List Int) (n : Int) (w : World) (e : Ending) (w' : World) : Prop := ∃ v, e = .returned (.tuple #[v, .int .i64 n]) ∧ Own w' w.heap.size v l ∧ Below w.heap.size w w'

theorem word_bs {w : World} {t : TypeId} {b : Nat} {l : List Int} (h8 : l.length = 8) (h : Oc w t b (.int .u8 (nth l 0)) (.int .u8 (nth l 1)) (.int .u8 (nth l 2)) (.int .u8 (nth l 3)) (.int .u8 (nth l 4)) (.int .u8 (nth l 5)) (.int .u8 (nth l 6)) (.int .u8 (nth l 7))) : Bs w (.slice (some ⟨b, 0, none⟩) 8 8) l := by
  obtain ⟨r0, r1, r2, r3, r4, r5, r6, r7⟩ := h.cells
  have := Bs.mk (w := w) (l := l) (b := b) (off := 0) (cap := 8) (by omega) (by unfold maxLen; decide) fun j hj => by
    rw [h8] at hj
    have : j = 0 ∨ j = 1 ∨ j = 2 ∨ j = 3 ∨ j = 4 ∨ j = 5 ∨ j = 6 ∨ j = 7 := by omega
    rcases this with rfl | rfl | rfl | rfl | rfl | rfl | rfl | rfl <;> assumption
  rwa [h8] at this

set_option maxHeartbeats 4000000 in
theorem putP (v : Value) (l : List Ins) (w : World) (T : Tab w) (h : Inss w v l) (hlen : l.length ≤ 1000000) (hw : ∀ j, j < l.length → InsWf (ith l j)) : Calls Tryd.prog 19 #[v] w (Gave (putI l) (putE l) w) := by
  obtain ⟨i0, hi, hz, hs1, hb1⟩ := u8info
  have HI := Lib.hid hi
  have HZ := Lib.hid hz
  have HS1 := Lib.hid hs1
  have HB1 := Lib.hid hb1
  clear hi hz hs1 hb1
  obtain ⟨ao, cap, hsh⟩ := h.shape
  have H := Lib.hid h
  subst hsh
  have HT := Lib.hid T
  have HW := Lib.hid hw
  obtain ⟨PL, hPL⟩ : ∃ x, x = putI l := ⟨_, rfl⟩
  obtain ⟨PE, hPE⟩ : ∃ x, x = putE l := ⟨_, rfl⟩
  rw [← hPL, ← hPE]
  have HPL := Lib.hid hPL
  have HPE := Lib.hid hPE
  clear h T hw hPL hPE
  generalize hn : l.length = n at *
  have hN := Lib.hid hn
  clear hn
  go_enter Tryd.func19, Tryd.ntmps19
  by_cases hbig : 4096 < n
  · have d0 : decide (4096 < n) = true := by simpa using hbig
    go_wp2_with fail
    go_ret2
    have e : PE = 3 := by rw [HPE.out]; unfold putE; rw [if_pos (by have := hN.out; omega)]
    exact ⟨_, by rw [e]; rfl, by rw [HPL.out]; unfold putI; rw [← HPE.out, e, if_neg (by decide)]; exact Own.nil _ _, Below.refl _ _⟩
  · have d0 : decide (4096 < n) = false := by simpa using hbig
    have W8 : IntKind.i64.wrap (8 * (n : Int)) = ((8 * n : Nat) : Int) := by rw [IntKind.wrap_i64]; omega
    go_wp2_with (at_make; refine wpList_make_own _ rfl _ _ 34 rfl w.heap.size 5 i0 (.int .u8 0) 1 Tryd.underlying34 HI.out HZ.out HS1.out _ _ _ (8 * n) rfl rfl (by first | rfl | omega) (by have := HB1.out; rw [this]; omega) (by unfold maxLen; omega) (Nat.le_refl _) ?_)
    intro w0 hown0 hgrow0
    have O0 : Own w0 w.heap.size (.slice (some ⟨w.heap.size, 0, none⟩) ([] : List Int).length (8 * n)) [] := hown0
    have HO0 := Lib.hid O0
    have B0 := Lib.hid ((Below.refl w.heap.size w).grown hgrow0 (Nat.le_refl _) (fun k h => by cases h))
    clear hown0 hgrow0 O0
    go_wp2_with fail
    go_loopw [4, 17] (fun s i wr => ∃ k : Nat, k ≤ n ∧ i = .int .i64 k ∧ s = .slice (some ⟨w.heap.size, 0, none⟩) (8 * k) (8 * n) ∧ Hid (rights (l.take k) = true) ∧ Hid (Own wr w.heap.size (.slice (some ⟨w.heap.size, 0, none⟩) (8 * k) (8 * n)) (encs (l.take k))) ∧ Hid (Below w.heap.size w wr)) (fun _ i _ => n - (intOf i).toNat)
    case atStart => exact ⟨0, Nat.zero_le _, rfl, by first | rfl | simp, Lib.hid rfl, Lib.hid (by simpa [encs] using HO0.out), B0⟩
    case round =>
      obtain ⟨k, hk, rfl, rfl, HRk, HO, HB⟩ := hrel
      by_cases hlt : k < n
      · have hd : decide (k < n) = true := by simpa using hlt
        have k0 : 0 ≤ (k : Int) := by omega
        have k1 : (k : Int) < (n : Int) := by omega
        obtain ⟨b, off, c, hsh, -, -, -, cells⟩ := (H.out).at (by have := hN.out; omega)
        have hao : ao = some ⟨b, off, none⟩ := by cases hsh; rfl
        subst hao
        have A8 := (cells k (by have := hN.out; omega)).past HB.out
        have wf := HW.out k (by have := hN.out; omega)
        have RI := Lib.hid (rightP (ith l k) wf.op0 wf.op1)
        have WO := Lib.hid (fun (h : right (ith l k) = true) => wordOf (ith l k) h)
        have HTK := Lib.hid (take_ith (l := l) (k := k) (by have := hN.out; omega))
        have HBAD := Lib.hid (fun (h : right (ith l k) = false) => show rights l = false from by
          cases hq : rights l with
          | false => rfl
          | true => rw [rights_ith hq (by have := hN.out; omega)] at h; cases h)
        clear cells hsh wf
        generalize ith l k = x at A8 RI WO HTK HBAD
        obtain ⟨xo, xn, xd, xs, xu, xf, xm, xz⟩ := x
        obtain ⟨x0, x1, x2, x3, x4, x5, x6, x7⟩ := A8
        unfold agg at RI WO
        simp only at x0 x1 x2 x3 x4 x5 x6 x7 RI WO
        have O1 := Lib.hid (oc_new wr 27 (.int .u8 xo) (.bool xn) (.int .i64 xd) (.int .i64 xs) (.bool xu) (.int .i64 xf) (.int .i64 xm) (.int .i64 xz))
        have B1 := Lib.hid ((HB.out).alloc (HB.out).size (Obj.cells #[.int .u8 xo, .bool xn, .int .i64 xd, .int .i64 xs, .bool xu, .int .i64 xf, .int .i64 xm, .int .i64 xz] 27))
        have HO1 := Lib.hid ((HO.out).alloc (Obj.cells #[.int .u8 xo, .bool xn, .int .i64 xd, .int .i64 xs, .bool xu, .int .i64 xf, .int .i64 xm, .int .i64 xz] 27))
        go_wp2_with fail
        refine ((RI.out) _).mono ?_; rintro e w2 ⟨rfl, b2⟩
        have O2 := Lib.hid ((O1.out).past b2)
        have B2 := Lib.hid ((B1.out).trans (b2.mono (B1.out).size))
        have HO2 := Lib.hid ((HO1.out).below b2 (Nat.le_refl _))
        clear b2 x0 x1 x2 x3 x4 x5 x6 x7
        obtain ⟨r0, r1, r2, r3, r4, r5, r6, r7⟩ := (O2.out).cells
        cases hr : right ⟨xo, xn, xd, xs, xu, xf, xm, xz⟩ with
        | false =>
          go_wp2_with fail
          go_ret2
          have e : PE = 4 := by rw [HPE.out]; unfold putE; rw [if_neg (by have := hN.out; omega), HBAD.out hr, if_neg (by decide)]
          exact ⟨_, by rw [e]; rfl, by rw [HPL.out]; unfold putI; rw [← HPE.out, e, if_neg (by decide)]; exact Own.nil _ _, B2.out⟩
        | true =>
          have WQ := Lib.hid (WO.out hr)
          have HE := Lib.hid (show encs (l.take (k + 1)) = encs (l.take k) ++ enc ⟨xo, xn, xd, xs, xu, xf, xm, xz⟩ by rw [HTK.out, encs_append, encs_one])
          have HR' := Lib.hid (show rights (l.take (k + 1)) = true by
            rw [HTK.out]; unfold rights; rw [List.all_append]; have := HRk.out; unfold rights at this; rw [this]; simp [hr])
          clear WO HTK HBAD
          have HL := Lib.hid (show (encs (l.take k)).length = 8 * k by rw [encs_length, List.length_take]; have := hN.out; omega)
          have HL8 := Lib.hid (enc_length ⟨xo, xn, xd, xs, xu, xf, xm, xz⟩)
          generalize enc ⟨xo, xn, xd, xs, xu, xf, xm, xz⟩ = eb at WQ HE HL8
          unfold wagg at WQ
          go_wp2_with fail
          refine ((WQ.out) _ ((HT.out).past B2.out)).mono ?_; rintro e w3 ⟨rfl, b3⟩
          have B3 := Lib.hid (((B2.out).trans (b3.mono (B2.out).size)))
          have O3 := Lib.hid (oc_new w3 55 (.int .u8 (nth eb 0)) (.int .u8 (nth eb 1)) (.int .u8 (nth eb 2)) (.int .u8 (nth eb 3)) (.int .u8 (nth eb 4)) (.int .u8 (nth eb 5)) (.int .u8 (nth eb 6)) (.int .u8 (nth eb 7)))
          have B4 := Lib.hid ((B3.out).alloc (B3.out).size (Obj.cells #[.int .u8 (nth eb 0), .int .u8 (nth eb 1), .int .u8 (nth eb 2), .int .u8 (nth eb 3), .int .u8 (nth eb 4), .int .u8 (nth eb 5), .int .u8 (nth eb 6), .int .u8 (nth eb 7)] 55))
          have HO4 := Lib.hid (((HO2.out).below b3 (Nat.le_refl _)).alloc (Obj.cells #[.int .u8 (nth eb 0), .int .u8 (nth eb 1), .int .u8 (nth eb 2), .int .u8 (nth eb 3), .int .u8 (nth eb 4), .int .u8 (nth eb 5), .int .u8 (nth eb 6), .int .u8 (nth eb 7)] 55))
          have HW8 := Lib.hid (word_bs HL8.out O3.out)
          clear b3
          go_wp2_with (at_builtin; refine wpList_append_bs_fits _ rfl _ _ rfl w.heap.size w.heap.size (8 * n) (8 * k) 8 _ HL.out rfl HO4.out _ eb HL8.out rfl HW8.out (by omega) ?_)
          intro w5 ho5 hg5
          have B5 := Lib.hid ((B4.out).grown hg5 (B4.out).size (fun k h => by cases h; exact Nat.le_refl _))
          have HO5 := Lib.hid ho5
          clear ho5 hg5
          go_wp2_with fail
          go_roundw
          case rel => exact ⟨k + 1, by omega, by go_num, by rw [show 8 * (k + 1) = 8 * k + 8 from by omega], HR', Lib.hid (by rw [HE.out, show 8 * (k + 1) = 8 * k + 8 from by omega]; exact HO5.out), B5⟩
          case measure => simp [intOf]; omega
      · have hd : decide (k < n) = false := by simpa using hlt
        have hkn : k = n := by omega
        subst hkn
        go_wp2_with fail
        go_ret2
        have hfull : l.take k = l := List.take_of_length_le (by have := hN.out; omega)
        have hz : putE l = 0 := putE_zero.2 ⟨by have := hN.out; omega, by rw [← hfull]; exact HRk.out⟩
        refine ⟨_, by rw [HPE.out, hz]; rfl, ?_, HB.out⟩
        rw [HPL.out]; unfold putI; rw [if_pos hz]
        unfold Own
        rw [encs_length, hN.out]
        have h1 := HO.out
        unfold Own at h1
        rw [hfull, encs_length, hN.out] at h1
        exact h1
end Go.Proofs.YtmkhcgfbeeimaaaDoor
