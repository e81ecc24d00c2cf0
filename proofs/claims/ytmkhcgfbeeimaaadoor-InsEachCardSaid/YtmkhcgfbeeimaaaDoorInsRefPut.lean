/- The document's side: instructions' bytes. -/
import Derived.Test.YtmkhcgfbeeimaaaDoorInsRefB
namespace Go.Proofs.YtmkhcgfbeeimaaaDoor
open Go.RowKit
set_option linter.unusedVariables false
set_option linter.unusedSimpArgs false
set_option maxRecDepth 100000

set_option maxHeartbeats 4000000 in
theorem refPut (v : Value) (l : List Ins) (w : World) (h : Inss w v l) (hlen : l.length ≤ 1000000) : Calls Tryd.prog 20 #[v] w (Gave (putI l) (putE l) w) := by
  obtain ⟨ao, cap, hsh⟩ := h.shape
  have H := Lib.hid h
  subst hsh
  obtain ⟨PL, hPL⟩ : ∃ x, x = putI l := ⟨_, rfl⟩
  obtain ⟨PE, hPE⟩ : ∃ x, x = putE l := ⟨_, rfl⟩
  rw [← hPL, ← hPE]
  have HPL := Lib.hid hPL
  have HPE := Lib.hid hPE
  clear h hPL hPE
  generalize hn : l.length = n at *
  have hN := Lib.hid hn
  clear hn
  go_enter Tryd.func20, Tryd.ntmps20
  by_cases hbig : 4096 < n
  · have d0 : decide (4096 < n) = true := by simpa using hbig
    go_wp2_with fail
    go_ret2
    have e : PE = 3 := by rw [HPE.out]; unfold putE; rw [if_pos (by have := hN.out; omega)]
    exact ⟨_, by rw [e]; rfl, by rw [HPL.out]; unfold putI; rw [← HPE.out, e, if_neg (by decide)]; exact Own.nil _ _, Below.refl _ _⟩
  · have d0 : decide (4096 < n) = false := by simpa using hbig
    go_wp2_with fail
    go_loopw [4, 5] (fun s i wr => ∃ (k : Nat) (sv : Value), k ≤ n ∧ i = .int .i64 k ∧ s = sv ∧ Hid (rights (l.take k) = true) ∧ Hid (Own wr w.heap.size sv (encs (l.take k))) ∧ Hid (Below w.heap.size w wr)) (fun _ i _ => n - (intOf i).toNat)
    case atStart => exact ⟨0, _, Nat.zero_le _, rfl, rfl, Lib.hid rfl, Lib.hid (Own.nil _ _), Lib.hid (Below.refl _ _)⟩
    case round =>
      obtain ⟨k, sv, hk, rfl, rfl, HRk, HO, HB⟩ := hrel
      by_cases hlt : k < n
      · have hd : decide (k < n) = true := by simpa using hlt
        have k0 : 0 ≤ (k : Int) := by omega
        have k1 : (k : Int) < (n : Int) := by omega
        obtain ⟨b, off, c, hsh, -, -, -, cells⟩ := (H.out).at (by have := hN.out; omega)
        have hao : ao = some ⟨b, off, none⟩ := by cases hsh; rfl
        subst hao
        have A8 := (cells k (by have := hN.out; omega)).past HB.out
        have HA8 := Lib.hid A8
        have RI := Lib.hid (refRight (ith l k))
        have BY := Lib.hid (fun (h : right (ith l k) = true) => refBytes (ith l k) h)
        have HTK := Lib.hid (take_ith (l := l) (k := k) (by have := hN.out; omega))
        have HBAD := Lib.hid (fun (h : right (ith l k) = false) => show rights l = false from by
          cases hq : rights l with
          | false => rfl
          | true => rw [rights_ith hq (by have := hN.out; omega)] at h; cases h)
        clear cells hsh
        generalize ith l k = x at A8 RI BY HTK HBAD HA8
        obtain ⟨xo, xn, xd, xs, xu, xf, xm, xz⟩ := x
        obtain ⟨x0, x1, x2, x3, x4, x5, x6, x7⟩ := A8
        unfold agg at RI BY
        simp only at x0 x1 x2 x3 x4 x5 x6 x7 RI BY
        go_wp2_with fail
        refine ((RI.out) _).mono ?_; rintro e w2 ⟨rfl, b2⟩
        have B2 := Lib.hid ((HB.out).trans (b2.mono (HB.out).size))
        have HO2 := Lib.hid ((HO.out).below b2 (Nat.le_refl _))
        clear x0 x1 x2 x3 x4 x5 x6 x7
        obtain ⟨x0, x1, x2, x3, x4, x5, x6, x7⟩ := (HA8.out).past b2
        simp only at x0 x1 x2 x3 x4 x5 x6 x7
        clear b2
        cases hr : right ⟨xo, xn, xd, xs, xu, xf, xm, xz⟩ with
        | false =>
          go_wp2_with fail
          go_ret2
          have e : PE = 4 := by rw [HPE.out]; unfold putE; rw [if_neg (by have := hN.out; omega), HBAD.out hr, if_neg (by decide)]
          exact ⟨_, by rw [e]; rfl, by rw [HPL.out]; unfold putI; rw [← HPE.out, e, if_neg (by decide)]; exact Own.nil _ _, B2.out⟩
        | true =>
          have BQ := Lib.hid (BY.out hr)
          have HE := Lib.hid (show encs (l.take (k + 1)) = encs (l.take k) ++ enc ⟨xo, xn, xd, xs, xu, xf, xm, xz⟩ by rw [HTK.out, encs_append, encs_one])
          have HR' := Lib.hid (show rights (l.take (k + 1)) = true by
            rw [HTK.out]; unfold rights; rw [List.all_append]; have := HRk.out; unfold rights at this; rw [this]; simp [hr])
          clear BY HTK HBAD
          have HL := Lib.hid (show (encs (l.take k)).length = 8 * k by rw [encs_length, List.length_take]; have := hN.out; omega)
          have HL8 := Lib.hid (enc_length ⟨xo, xn, xd, xs, xu, xf, xm, xz⟩)
          generalize enc ⟨xo, xn, xd, xs, xu, xf, xm, xz⟩ = eb at BQ HE HL8
          go_wp2_with fail
          refine ((BQ.out) _).mono ?_; rintro e w3 ⟨g3, rfl, o3, b3⟩
          have B3 := Lib.hid ((B2.out).trans (b3.mono (B2.out).size))
          have HO3 := Lib.hid ((HO2.out).below b3 (Nat.le_refl _))
          have HE3 := Lib.hid o3.bs
          clear b3 o3 x0 x1 x2 x3 x4 x5 x6 x7
          go_wp2_with (at_builtin; refine wpList_append_bs _ rfl _ _ rfl w.heap.size _ _ rfl HO3.out _ eb rfl HE3.out (by have := HL.out; have := HL8.out; omega) (B3.out).size ?_)
          intro v5 w5 ho5 hg5
          have B5 := Lib.hid ((B3.out).grown hg5 (B3.out).size (fun j hj => ((HO3.out).lt j hj).1))
          have HO5 := Lib.hid ho5
          obtain ⟨a5, c5, hv5⟩ := ho5.bs.shape
          clear ho5 hg5
          go_wp2_with fail
          go_roundw
          case rel => exact ⟨k + 1, v5, by omega, by go_num, rfl, HR', Lib.hid (by rw [HE.out]; exact HO5.out), B5⟩
          case measure => simp [intOf]; omega
      · have hd : decide (k < n) = false := by simpa using hlt
        have hkn : k = n := by omega
        subst hkn
        go_wp2_with fail
        go_ret2
        have hfull : l.take k = l := List.take_of_length_le (by have := hN.out; omega)
        have hz : putE l = 0 := putE_zero.2 ⟨by have := hN.out; omega, by rw [← hfull]; exact HRk.out⟩
        refine ⟨_, by rw [HPE.out, hz]; rfl, ?_, HB.out⟩
        rw [HPL.out]; unfold putI; rw [if_pos hz]
        have h1 := HO.out
        rw [hfull] at h1
        exact h1
end Go.Proofs.YtmkhcgfbeeimaaaDoor
