/- What is put is got; what is got is right, and put as the same bytes; beginnings are beginnings (InsBack). -/
import Derived.Test.YtmkhcgfbeeimaaaDoorInsLawR
import Derived.Deep.DeepCutAuto
namespace Go.Proofs.YtmkhcgfbeeimaaaDoor
open Go.RowKit
set_option linter.unusedVariables false
set_option linter.unusedSimpArgs false
set_option maxRecDepth 100000

theorem slice_to_i (ao : Option Addr) (n cap c : Nat) (h2 : c ≤ cap) (W : World) :
    (Instr.slice 22 (.slice ao n cap) none (some (.int .i64 (c : Nat))) none).run Tryd.prog W = .ok (.slice ao c cap) W := by
  have he : Tryd.prog.underlying 22 = some (.slice (Tryd.prog.elem 22)) := by kernel_rfl
  obtain ⟨i, hi, _, hs1, _⟩ := insInfo
  have hel : Tryd.prog.elem 22 = 27 := by kernel_rfl
  rw [run_slice_h (w := W) 22 ao n cap he .i64 (c : Nat) (by omega) (by omega)]
  rw [hel]
  have hsz : (sizeOf 27).run Tryd.prog W = .ok 8 W := by simp [sizeOf, typeInfo, hi, hs1]
  rw [hsz]
  simp only [Result.andThen, sliced, Int.toNat_natCast]
  by_cases h : cap = 0
  · rw [if_pos h]; simp
  · rw [if_neg h]
    cases ao with
    | none => simp
    | some a => simp [Addr.add]
theorem Inss.cap {w : World} {ao : Option Addr} {n cap : Nat} {l : List Ins} (h : Inss w (.slice ao n cap) l) : l.length ≤ cap := by
  obtain ⟨_, _, hv, h1, _⟩ := h; cases hv; exact h1
theorem Bs.cap {w : World} {ao : Option Addr} {n cap : Nat} {l : List Int} (h : Bs w (.slice ao n cap) l) : l.length ≤ cap := by
  obtain ⟨_, _, hv, h1, _⟩ := h; cases hv; exact h1

/-- The second half: what is got of bytes. -/
structure Half (w w0 : World) (u : Value) (bs : List Int) : Prop where
  tab : Tab w
  bs : Bs w u bs
  bel : Below w0.heap.size w0 w
theorem Half.past {w w' w0 : World} {u : Value} {bs : List Int} (h : Half w w0 u bs) (hb : Below w.heap.size w w') : Half w' w0 u bs := ⟨h.tab.past hb, h.bs.past hb, h.bel.trans (hb.mono h.bel.size)⟩

set_option maxHeartbeats 16000000 in
theorem insBackOf (v u : Value) (z : Int) (l : List Ins) (bs : List Int) (w : World) (T : Tab w) (h : Inss w v l) (hw : ∀ j, j < l.length → InsWf (ith l j)) (hb : Bs w u bs) (ho : Oct bs) (hz : (Lit.int .i64 z).wf = true) :
    Calls Tryd.prog 6 #[v, u, .int .i64 z] w (Says true w) := by
  obtain ⟨ao, cap, hsh⟩ := h.shape
  obtain ⟨au, cu, hsu⟩ := hb.shape
  have H := Lib.hid h
  have hl := h.len
  have hlb := hb.len
  subst hsh hsu
  have HW := Lib.hid hw
  have HO := Lib.hid ho
  have HZ := Lib.hid hz
  have F0 := Lib.hid (show Half w w _ bs from ⟨T, hb, Below.refl _ _⟩)
  clear h T hw hb ho hz
  generalize hn : l.length = n at *
  generalize hm : bs.length = m at *
  have hN := Lib.hid hn
  have hM := Lib.hid hm
  clear hn hm
  go_enter Tryd.func6, Tryd.ntmps6
  go_wp2_with fail
  refine (awake _ (F0.out).tab).mono ?_; rintro e w1 ⟨rfl, b1⟩
  have H1 := Lib.hid ((H.out).past b1)
  have F1 := Lib.hid ((F0.out).past b1)
  clear b1
  by_cases hbig : 400 < n
  · have d0 : decide (400 < n) = true := by simpa using hbig
    go_wp2_with fail
    go_ret
    exact ⟨rfl, (F1.out).bel⟩
  have d0 : decide (400 < n) = false := by simpa using hbig
  by_cases hbig2 : 4000 < m
  · have d1 : decide (4000 < m) = true := by simpa using hbig2
    go_wp2_with fail
    go_ret
    exact ⟨rfl, (F1.out).bel⟩
  have d1 : decide (4000 < m) = false := by simpa using hbig2
  have HL6 := Lib.hid (show l.length ≤ 1000000 by have := hN.out; omega)
  have HL9 := Lib.hid (show bs.length ≤ 140737488351232 by have := hM.out; omega)
  have HWL := Lib.hid (show ∀ j, j < l.length → InsWf (ith l j) by have := hN.out; rw [this]; exact HW.out)
  go_wp2_with fail
  refine (putP _ l _ (F1.out).tab H1.out HL6.out HWL.out).mono ?_; rintro e w2 ⟨v2, rfl, o2, b2⟩
  have F2 := Lib.hid ((F1.out).past b2)
  have H2 := Lib.hid ((H1.out).past b2)
  have P2 := Lib.hid o2.bs
  clear b2 o2
  go_upto_if 35 with fail
  go_cut [6, 8] (fun r r8 wx => r = .bool false ∧ Hid (Half wx w (.slice au m cu) bs))
  case first =>
    by_cases hpe : putE l = 0
    · have hpl : (putI l).length = 8 * n := by unfold putI; rw [if_pos hpe, encs_length, hN.out]
      obtain ⟨a2, c2, hv2⟩ := (P2.out).shape
      rw [hpl] at hv2
      subst hv2
      have hg := get_put hpe n (by have := hN.out; omega)
      rw [List.take_of_length_le (by omega), List.take_of_length_le (by have := hN.out; omega)] at hg
      have HG1 := Lib.hid hg.1
      have HG2 := Lib.hid hg.2
      have HOC := Lib.hid (show Oct (putI l) by unfold putI; rw [if_pos hpe]; exact encs_oct (putE_zero.1 hpe).2)
      have HGC := Lib.hid (fun k (hk : k ≤ n) => get_put hpe k (by have := hN.out; omega))
      have HPL := Lib.hid hpl
      clear hg hpl
      rw [hpe]
      go_wp2_with fail
      refine (getP _ _ _ (F2.out).tab P2.out HOC.out (by have := HPL.out; omega)).mono ?_; rintro e w3 ⟨v3, rfl, o3, b3⟩
      rw [HG1.out]
      rw [HG2.out] at o3
      have F3 := Lib.hid ((F2.out).past b3)
      have H3 := Lib.hid ((H2.out).past b3)
      have P3 := Lib.hid ((P2.out).past b3)
      have M3 := Lib.hid o3.inss
      clear b3 o3
      have W1 : IntKind.i64.wrap ((n : Int) + 1) = ((n + 1 : Nat) : Int) := by rw [IntKind.wrap_i64]; omega
      obtain ⟨k, hk, PK⟩ := pickIn z (n + 1) w3 HZ.out (by omega) (by omega)
      rw [show ((n + 1 : Nat) : Int) = (n : Int) + 1 from by omega] at PK
      have hPK := Lib.hid PK
      clear PK
      have HGK := Lib.hid (HGC.out k (by omega))
      have hkn : k ≤ n := by omega
      have HKN := Lib.hid hkn
      have HCP := Lib.hid (P3.out).cap
      have HCL := Lib.hid (H3.out).cap
      obtain ⟨k8, hk8⟩ : ∃ k8, k8 = 8 * k := ⟨_, rfl⟩
      have W8 : IntKind.i64.wrap (8 * (k : Int)) = (k8 : Int) := by rw [IntKind.wrap_i64]; omega
      have hsl := slice_to a2 (8 * n) c2 k8 (by have := HCP.out; rw [HPL.out] at this; omega)
      have hsi := slice_to_i ao n cap k (by have := HCL.out; have := hN.out; omega)
      have HT8 := Lib.hid (show Bs w3 (.slice a2 k8 c2) ((putI l).take (8 * k)) by rw [← hk8]; exact (P3.out).take (by have := HPL.out; omega))
      have HTK := Lib.hid (show Inss w3 (.slice ao k cap) (l.take k) from (H3.out).take (by have := hN.out; omega))
      have HLT := Lib.hid (show ((putI l).take (8 * k)).length ≤ 140737488351232 by rw [List.length_take]; have := HPL.out; omega)
      have HK8 := Lib.hid hk8
      clear hk8 hk hkn
      go_wp2_with fail
      refine (hPK.out).mono ?_; rintro e w_ ⟨rfl, rfl⟩
      go_wp2_with fail
      refine (getP _ _ _ (F3.out).tab HT8.out ((HOC.out).take _) HLT.out).mono ?_; rintro e w4 ⟨v4, rfl, o4, b4⟩
      rw [(HGK.out).1]
      rw [(HGK.out).2] at o4
      have F4 := Lib.hid ((F3.out).past b4)
      have H4 := Lib.hid ((H3.out).past b4)
      have M4 := Lib.hid ((M3.out).past b4)
      have TK4 := Lib.hid ((HTK.out).past b4)
      have N4 := Lib.hid o4.inss
      clear b4 o4
      go_wp2_with fail
      refine (sameIns _ _ l _ M4.out H4.out).mono ?_; rintro e w5 ⟨rfl, st5⟩
      have F5 := Lib.hid ((F4.out).past (st5.below _))
      have TK5 := Lib.hid ((TK4.out).past (st5.below _))
      have N5 := Lib.hid ((N4.out).past (st5.below _))
      clear st5
      go_wp2_with fail
      refine (sameIns _ _ (l.take k) _ N5.out TK5.out).mono ?_; rintro e w6 ⟨rfl, st6⟩
      have F6 := Lib.hid ((F5.out).past (st6.below _))
      clear st6
      have W9 : IntKind.i64.wrap (8 * (n : Int)) = 8 * (n : Int) := by rw [IntKind.wrap_i64]; omega
      go_wp2_with fail
      go_meet
      exact ⟨rfl, F6⟩
    · have hne : (putE l == 0) = false := by simpa using hpe
      go_wp2_with fail
      go_meet
      exact ⟨rfl, F2⟩
  case rest =>
  obtain ⟨rfl, F3⟩ := hcut
  have HGT := Lib.hid (fun W (h : Half W w (.slice au m cu) bs) => getP _ bs W h.tab h.bs HO.out HL9.out)
  by_cases hge : getE bs = 0
  · have hpg := put_get hge
    have hlen : (getI bs).length ≤ 1000000 := by unfold getI; rw [if_pos hge, decs_length]; have := hM.out; omega
    have HPG := Lib.hid hpg
    have HGL := Lib.hid hlen
    have HWG := Lib.hid (fun j (hj : j < (getI bs).length) => (tame (rights_ith hpg.2.2 hj)).wf)
    have HRG := Lib.hid (fun j (hj : j < (getI bs).length) => rights_ith hpg.2.2 hj)
    rw [hge] at HGT
    clear hpg hlen hge
    obtain ⟨q, hq⟩ : ∃ q, q = (getI bs).length := ⟨_, rfl⟩
    generalize getI bs = gl at *
    go_wp2_with fail
    refine ((HGT.out) _ F3.out).mono ?_; rintro e w4 ⟨v4, rfl, o4, b4⟩
    have F4 := Lib.hid ((F3.out).past b4)
    have M4 := Lib.hid o4.inss
    obtain ⟨a4, c4, hv4⟩ := o4.shape
    rw [← hq] at hv4
    subst hv4
    have HQ := Lib.hid hq
    clear b4 o4 hq HGT
    have hq63 : q ≤ 1000000 := by have := HGL.out; have := HQ.out; omega
    go_wp2_with fail
    go_loopw [6, 16] (fun r i wr => ∃ k : Nat, k ≤ q ∧ r = .bool false ∧ i = .int .i64 k ∧ Hid (Half wr w (.slice au m cu) bs) ∧ Hid (Inss wr (.slice a4 q c4) gl)) (fun _ i _ => q - (intOf i).toNat)
    case atStart => exact ⟨0, Nat.zero_le _, rfl, rfl, F4, M4⟩
    case round =>
      obtain ⟨k, hk, rfl, rfl, F5, M5⟩ := hrel
      by_cases hlt : k < q
      · have hd : decide (k < q) = true := by simpa using hlt
        have k0 : 0 ≤ (k : Int) := by omega
        have k1 : (k : Int) < (q : Int) := by omega
        obtain ⟨b, off, c, hsh, -, -, -, cells⟩ := (M5.out).at (by have := HQ.out; omega)
        rw [← HQ.out] at hsh
        obtain ⟨rfl, rfl⟩ : a4 = some ⟨b, off, none⟩ ∧ c4 = c := by cases hsh; exact ⟨rfl, rfl⟩
        have A8 := cells k (by have := HQ.out; omega)
        have hr := HRG.out k (by have := HQ.out; omega)
        have wf := HWG.out k (by have := HQ.out; omega)
        have RI := Lib.hid (rightP (ith gl k) wf.op0 wf.op1)
        rw [hr] at RI
        clear cells hsh wf hr
        generalize ith gl k = x at A8 RI
        obtain ⟨xo, xn, xd, xs, xu, xf, xm, xz⟩ := x
        obtain ⟨x0, x1, x2, x3, x4, x5, x6, x7⟩ := A8
        unfold agg at RI
        simp only at x0 x1 x2 x3 x4 x5 x6 x7 RI
        go_wp2_with fail
        refine ((RI.out) _).mono ?_; rintro e w6 ⟨rfl, b6⟩
        have F6 := Lib.hid ((F5.out).past b6)
        have M6 := Lib.hid ((M5.out).past b6)
        clear b6
        go_wp2_with fail
        go_roundw
        case rel => exact ⟨k + 1, by omega, rfl, by go_num, F6, M6⟩
        case measure => simp [intOf]; omega
      · have hd : decide (k < q) = false := by simpa using hlt
        go_wp2_with fail
        refine (putP _ gl _ (F5.out).tab M5.out HGL.out HWG.out).mono ?_; rintro e w7 ⟨v7, rfl, o7, b7⟩
        rw [(HPG.out).1]
        rw [(HPG.out).2.1] at o7
        have F7 := Lib.hid ((F5.out).past b7)
        have P7 := Lib.hid o7.bs
        clear b7 o7
        go_wp2_with fail
        refine (sameBytes_yes P7.out (F7.out).bs rfl).mono ?_; rintro e w8 ⟨rfl, b8⟩
        go_wp2_with fail
        go_ret
        exact ⟨rfl, ((F7.out).past b8).bel⟩
  · have hgi := getI_not hge
    rw [hgi] at HGT
    have hne : (getE bs != 0) = true := by simpa using hge
    generalize getE bs = ge at *
    go_wp2_with fail
    refine ((HGT.out) _ F3.out).mono ?_; rintro e w4 ⟨v4, rfl, o4, b4⟩
    have F4 := Lib.hid ((F3.out).past b4)
    obtain ⟨a4, c4, hv4⟩ := o4.shape
    subst hv4
    clear b4 o4
    go_wp2_with fail
    go_ret
    exact ⟨rfl, (F4.out).bel⟩
end Go.Proofs.YtmkhcgfbeeimaaaDoor
