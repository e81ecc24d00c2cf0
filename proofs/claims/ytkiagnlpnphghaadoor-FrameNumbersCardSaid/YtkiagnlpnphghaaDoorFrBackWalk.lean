/- FrameBack is true. -/
import Derived.Test.YtkiagnlpnphghaaDoorFrAwake
namespace Go.Proofs.YtkiagnlpnphghaaDoor
open Go.RowKit
set_option linter.unusedVariables false
set_option linter.unusedSimpArgs false

theorem Frs.take {w : World} {ao : Option Addr} {n cap : Nat} {vs : List Value} {fs : List Fr} (h : Frs w (.slice ao n cap) vs fs) {k : Nat} (hk : k ≤ fs.length) : Frs w (.slice ao k cap) (vs.take k) (fs.take k) := by
  obtain ⟨hl, h⟩ := h
  have hfl : (fs.take k).length = k := by rw [List.length_take]; omega
  refine ⟨by rw [List.length_take, List.length_take, hl], ?_⟩
  rcases h with ⟨rfl, ao', cap', hv⟩ | ⟨b, off, cap', hv, h1, h2, h3, h4⟩
  · obtain rfl : k = 0 := by simpa using hk
    exact Or.inl ⟨by simp, _, _, rfl⟩
  · cases hv
    refine Or.inr ⟨b, off, cap, by rw [hfl], by rw [hfl]; omega, h2, h3, fun j hj => ?_⟩
    rw [hfl] at hj
    have e1 : fth (fs.take k) j = fth fs j := by simp [fth, List.getD, List.getElem?_take, hj]
    have e2 : vth (vs.take k) j = vth vs j := by simp [vth, List.getD, List.getElem?_take, hj]
    rw [e1, e2]
    exact h4 j (by omega)
theorem frms_take_succ {fs : List Fr} {k : Nat} (h : k < fs.length) : (frms (fs.take (k + 1))).length = (frms (fs.take k)).length + 9 + (fth fs k).2.length := by
  rw [take_fth h, frms_append, frms_one, List.length_append, frm_length]; omega
theorem frms_oct : ∀ {fs : List Fr} (h : OkFrs fs), Oct (frms fs)
  | [], _ => fun x hx => by simp [frms] at hx
  | f :: fs, h => by
    have := h.cons
    exact (frm_oct this.1.1 this.1.2).append (frms_oct this.2)

/-- e tells these frames. -/
def ScanIs (fs : List Fr) (us : Nat) (sp : Bool) (w : World) (e : Ending) (w' : World) : Prop :=
  ∃ a n c vs, e = .returned (.tuple #[.slice a n c, .int .i64 us, .bool sp]) ∧ OwnF 36 w' w.heap.size (.slice a n c) vs fs ∧ Told w' w.heap.size vs fs ∧ Below w.heap.size w w' ∧ fs.length = n
theorem scanIs (v : Value) (l : List Int) (w : World) (T : Tab w) (h : Bs w v l) (ho : Oct l) (hlen : l.length ≤ 1000000) {fs : List Fr} {us : Nat} {sp : Bool} (hs : scan l = (fs, us, sp)) :
    Calls Tryd.prog 20 #[v] w (ScanIs fs us sp w) := by
  refine (scanOf v l w T h ho hlen).mono fun e w' hx => ?_
  unfold ScanAns at hx
  rw [hs] at hx
  exact hx

set_option maxHeartbeats 4000000 in
set_option maxRecDepth 100000 in
theorem frameBackOf (v : Value) (vs : List Value) (fs : List Fr) (cut : Int) (u : Value) (l : List Int) (w : World) (T : Tab w) (h : Frs w v vs fs) (ho : Octs fs) (hsh : Short fs)
    (hcw : (Lit.int .i64 cut).wf = true) (hb : Bs w u l) (hob : Oct l) :
    Calls Tryd.prog 6 #[v, .int .i64 cut, u] w (Gives (.bool true) w) := by
  obtain ⟨ao, cap, hshp⟩ := h.shape
  obtain ⟨bo, cbp, hshb⟩ := hb.shape
  have AW := Lib.hid (awakeOf w T)
  have G := fun W (hb : Below w.heap.size w W) => Lib.hid (great v vs fs W (h.past hb) hsh)
  have OW := fun W (hb : Below w.heap.size w W) ht => Lib.hid (ownOf v vs fs W (h.past hb) ht)
  have PK := fun n W hn h0 => Lib.hid (pickIn cut n W hcw hn h0)
  have SL := Lib.hid (scan_len hob)
  have PS := Lib.hid (put_scan l.length (Nat.le_refl _) hob)
  have HT := Lib.hid T
  have H := Lib.hid h
  have HO := Lib.hid ho
  have HB := Lib.hid hb
  have HOB := Lib.hid hob
  have hlen := hb.len
  subst hshp hshb
  have hcapa : fs.length ≤ cap := by
    rcases h.2 with ⟨h1, _⟩ | ⟨_, _, _, hv, h1, _⟩
    · rw [h1]; exact Nat.zero_le _
    · cases hv; exact h1
  have hcapb : l.length ≤ cbp := by obtain ⟨_, _, hv, h1, _⟩ := hb; cases hv; exact h1
  clear T h ho hsh hb hob hcw
  generalize hn : fs.length = n at *
  have hN := Lib.hid hn
  clear hn
  generalize hnl : l.length = nl at *
  have hNL := Lib.hid hnl
  clear hnl
  go_enter Tryd.func6, Tryd.ntmps6
  go_wp2_with fail
  refine (AW.out).mono ?_; rintro e w1 ⟨rfl, b1⟩
  have B1 := Lib.hid b1
  clear b1 AW
  have G1 := G w1 B1.out
  go_wp2_with fail
  refine (G1.out).mono ?_; rintro e w0 ⟨g, rfl, rfl, hg⟩
  clear G G1
  cases g
  · have ht := Lib.hid (hg rfl)
    clear hg
    have hm := Lib.hid (show n + total fs ≤ 20000 by have := ht.out; have := hN.out; omega)
    by_cases hlb : nl ≤ 20000
    · have hd : decide (20000 < (nl : Int)) = false := by simp; omega
      have LB := OW w1 B1.out hm.out
      go_wp2_with fail
      refine (LB.out).mono ?_; rintro e w2 ⟨a1, c1, us, rfl, l1, b2⟩
      have hfl := Lib.hid (show (frms fs).length ≤ 180000 by rw [frms_total]; have := ht.out; have := hN.out; omega)
      have B2 := Lib.hid (bel_trans B1.out b2)
      have P1 := Lib.hid (put _ us fs w2 ((HT.out).past B2.out) l1.frs HO.out (by have := hfl.out; omega))
      clear l1 b2 LB OW
      rw [hN.out]
      rw [hN.out] at P1
      go_wp2_with fail
      refine (P1.out).mono ?_; rintro e w3 ⟨a2, n2, c2, rfl, o2, b3⟩
      have B3 := Lib.hid (bel_trans B2.out b3)
      clear b3 P1
      by_cases he : putErr fs = 0
      · rw [if_pos he] at o2
        rw [he]
        have OK := Lib.hid (show OkFrs fs from fun f hf => ⟨putErr_ok he f hf, HO.out f hf⟩)
        have hq := o2.slen'
        have SC1 := Lib.hid (scanIs _ (frms fs) w3 ((HT.out).past B3.out) o2.bs (frms_oct OK.out) (by have := hfl.out; omega) (show scan (frms fs) = (fs, n2, false) by rw [hq]; exact scan_put OK.out))
        have O2 := Lib.hid o2
        have hQ := Lib.hid (show n2 = (frms fs).length from hq)
        clear o2 he hq
        go_wp2_with fail
        refine (SC1.out).mono ?_; rintro e w4 ⟨a3, n3, c3, vs3, rfl, o3, t3, b4, hl3⟩
        have B4 := Lib.hid (bel_trans B3.out b4)
        have SM := Lib.hid (sameOf (.slice a3 n3 c3) (.slice ao n cap) vs3 vs fs w4 (t3.frs o3) ((H.out).past B4.out))
        have O4 := Lib.hid ((O2.out).bs.past b4)
        have hn2 : n2 ≤ 180000 := by have := hfl.out; have := hQ.out; omega
        clear o3 t3 b4 hl3 SC1 O2
        have hqq : ((n2 : Int) != (n2 : Int)) = false := by simp
        have hqn : (n2 != n2) = false := by simp
        go_wp2_with fail
        refine (SM.out).mono ?_; rintro e w5 ⟨rfl, s5⟩
        have B5 := Lib.hid (bel_past B4.out s5.past)
        have O5 := Lib.hid ((O4.out).past s5.past)
        have hc2 : n2 ≤ c2 := by obtain ⟨_, _, hv, h1, _⟩ := O5.out; cases hv; have := hQ.out; omega
        clear s5 SM O4
        obtain ⟨cc, hcc, PK1⟩ := (PK (n2 + 1) w5 (by omega) (by omega)).out
        rw [show ((n2 + 1 : Nat) : Int) = (n2 : Int) + 1 from by omega] at PK1
        have HPK := Lib.hid PK1
        clear PK1 PK
        go_wp2_with fail
        refine (HPK.out).mono ?_; rintro e w6 ⟨rfl, rfl⟩
        clear HPK
        go_wp2_with fail
        have hn20 : n ≤ 20000 := by have := hm.out; omega
        go_loopw [12, 13] (fun wh at_ wr => ∃ k a : Nat, k ≤ n ∧ wh = .int .i64 k ∧ at_ = .int .i64 a ∧ Hid (a = (frms (fs.take k)).length) ∧ a ≤ cc ∧ wr = w5) (fun wh _ _ => n - (intOf wh).toNat)
        case atStart => exact ⟨0, 0, Nat.zero_le _, rfl, rfl, Lib.hid (by simp [frms]), Nat.zero_le _, rfl⟩
        case round =>
          obtain ⟨k, a, hk, rfl, rfl, ha, hac, rfl⟩ := hrel
          by_cases hlt : k < n
          · have hd : decide (k < n) = true := by simpa using hlt
            obtain ⟨b2, off2, cap2, hsh2, hbl2, hf2⟩ := ((H.out).past B5.out).at (j := k) (by have := hN.out; omega)
            have hao2 : ao = some ⟨b2, off2, none⟩ := by cases hsh2; rfl
            subst hao2
            have g1 := hf2.c1
            obtain ⟨al, cl, hsl⟩ := hf2.bs.shape
            rw [hsl] at g1
            have i0 : (0 : Int) ≤ (k : Int) := by omega
            have i1 : (k : Int) < (n : Int) := by omega
            have hs1 := Lib.hid (frms_take_succ (fs := fs) (k := k) (by have := hN.out; omega))
            have hdl := total_each (fs := fs) (k := k) (by have := hN.out; omega)
            have hm20 : (fth fs k).2.length ≤ 20000 := by have := hm.out; omega
            have hfk := Lib.hid (show ∀ f, fs[k]? = some f → f.2.length = (fth fs k).2.length from fun f hf => by rw [fth_get (by have := hN.out; omega)] at hf; cases hf; rfl)
            clear hf2 hsh2 hsl hdl
            generalize (fth fs k).2.length = m at *
            by_cases hle : a + 9 + m ≤ cc
            · have hd2 : decide ((a : Int) + 9 + (m : Int) ≤ (cc : Int)) = true := by simp; omega
              go_wp2_with fail
              go_roundw
              case rel => exact ⟨k + 1, a + 9 + m, by omega, by go_num, by go_num, Lib.hid (by rw [hs1.out, ← ha.out]), hle, trivial⟩
              case measure => simp [intOf]; omega
            · have hd2 : decide ((a : Int) + 9 + (m : Int) ≤ (cc : Int)) = false := by simp; omega
              have hk0 : k ≤ fs.length := by have := hN.out; omega
              have hcut := Lib.hid (show scan ((frms fs).take cc) = (fs.take k, a, false) by
                rw [ha.out]
                exact scan_cut OK.out hk0 (by have := ha.out; omega) (by have := hQ.out; omega) (by intro f hf; have := hfk.out f hf; have := ha.out; omega))
              have hcl := Lib.hid (show ((frms fs).take cc).length = cc by rw [List.length_take]; have := hQ.out; omega)
              have SC2 := Lib.hid (scanIs (.slice a2 cc c2) ((frms fs).take cc) wr ((HT.out).past B5.out) ((O5.out).take (by have := hQ.out; omega)) ((frms_oct OK.out).take cc) (by rw [hcl.out]; omega) hcut.out)
              have hcc2 : cc ≤ c2 := by omega
              have hkc : k ≤ cap := by have := hcapa; omega
              have haa : ((a : Int) != (a : Int)) = false := by simp
              have haa2 : (a != a) = false := by simp
              go_wp2_with fail
              refine (SC2.out).mono ?_; rintro e w6 ⟨a6, n6, c6, vs6, rfl, o6, t6, b6, hl6⟩
              have B6 := Lib.hid (bel_trans B5.out b6)
              have SM2 := Lib.hid (sameOf (.slice a6 n6 c6) (.slice (some ⟨b2, off2, none⟩) k cap) vs6 (vs.take k) (fs.take k) w6 (t6.frs o6) (((H.out).past B6.out).take hk0))
              clear o6 t6 b6 hl6 SC2
              go_wp2_with fail
              refine (SM2.out).mono ?_; rintro e w7 ⟨rfl, s7⟩
              have B7 := Lib.hid (bel_past B6.out s7.past)
              clear s7 SM2
              go_wp2_with fail
              have SCb := Lib.hid (scanOf _ l w7 ((HT.out).past (B7.out)) ((HB.out).past (B7.out)) HOB.out (by have := hNL.out; omega))
              go_wp2_with fail
              refine (SCb.out).mono ?_; rintro e y1 ⟨ya, yn, yc, yvs, rfl, yo, yt, yb, yl⟩
              have Y1 := Lib.hid (bel_trans (B7.out) yb)
              have hus : (scan l).2.1 ≤ nl := by have := PS.out.2.1; have := hNL.out; omega
              have hfr := Lib.hid (show frms (scan l).1 = l.take (scan l).2.1 from PS.out.2.2)
              have hfl2 : (frms (scan l).1).length ≤ 1000000000 := by rw [hfr.out, List.length_take]; have := hNL.out; omega
              have PT := Lib.hid (put _ yvs (scan l).1 y1 ((HT.out).past Y1.out) (yt.frs yo) (fun f hf => (PS.out.1 f hf).2) hfl2)
              have hpe := Lib.hid (putErr_of_ok fun f hf => (PS.out.1 f hf).1)
              clear SCb yo yt yb yl hfl2
              go_wp2_with fail
              refine (PT.out).mono ?_; rintro e y2 ⟨za, zn, zc, rfl, zo, zb⟩
              have Y2 := Lib.hid (bel_trans Y1.out zb)
              rw [if_pos hpe.out, hfr.out] at zo
              rw [hpe.out]
              have hb2 := ((HB.out).past Y2.out).take (n := (scan l).2.1) (by have := hNL.out; omega)
              have SBt := Lib.hid (sameBytes _ _ _ _ y2 zo.bs hb2)
              have hdd : decide (l.take (scan l).2.1 = l.take (scan l).2.1) = true := by simp
              rw [hdd] at SBt
              have hcap := Lib.hid (show nl ≤ cbp from hcapb)
              clear PT hpe zo zb hfr hdd hb2
              generalize (scan l).2.1 = us at *
              have huc : us ≤ cbp := by have := hcap.out; omega
              have hu1 : (us : Int) ≤ (nl : Int) := by omega
              have hu2 : (0 : Int) ≤ (us : Int) := by omega
              have hu3 : decide ((us : Int) ≤ (nl : Int)) = true := by simpa using hus
              go_wp2_with fail
              refine (SBt.out).mono ?_; rintro e y3 ⟨rfl, ys⟩
              go_wp2_with fail
              go_ret
              exact ⟨rfl, bel_past Y2.out ys.past⟩
          · have hd : decide (k < n) = false := by simpa using hlt
            have hk' : k = n := by omega
            subst hk'
            have hk0 : k ≤ fs.length := by have := hN.out; omega
            have hcut := Lib.hid (show scan ((frms fs).take cc) = (fs.take k, a, false) by
              rw [ha.out]
              exact scan_cut OK.out hk0 (by have := ha.out; omega) (by have := hQ.out; omega) (by intro f hf; have h := (List.getElem?_eq_some_iff.1 hf).1; have := hN.out; omega))
            have hcl := Lib.hid (show ((frms fs).take cc).length = cc by rw [List.length_take]; have := hQ.out; omega)
            have SC2 := Lib.hid (scanIs (.slice a2 cc c2) ((frms fs).take cc) wr ((HT.out).past B5.out) ((O5.out).take (by have := hQ.out; omega)) ((frms_oct OK.out).take cc) (by rw [hcl.out]; omega) hcut.out)
            have hcc2 : cc ≤ c2 := by omega
            have hkc : k ≤ cap := by have := hcapa; omega
            have haa : ((a : Int) != (a : Int)) = false := by simp
            have haa2 : (a != a) = false := by simp
            go_wp2_with fail
            refine (SC2.out).mono ?_; rintro e w6 ⟨a6, n6, c6, vs6, rfl, o6, t6, b6, hl6⟩
            have B6 := Lib.hid (bel_trans B5.out b6)
            have SM2 := Lib.hid (sameOf (.slice a6 n6 c6) (.slice ao k cap) vs6 (vs.take k) (fs.take k) w6 (t6.frs o6) (((H.out).past B6.out).take hk0))
            clear o6 t6 b6 hl6 SC2
            go_wp2_with fail
            refine (SM2.out).mono ?_; rintro e w7 ⟨rfl, s7⟩
            have B7 := Lib.hid (bel_past B6.out s7.past)
            clear s7 SM2
            go_wp2_with fail
            have SCb := Lib.hid (scanOf _ l w7 ((HT.out).past (B7.out)) ((HB.out).past (B7.out)) HOB.out (by have := hNL.out; omega))
            go_wp2_with fail
            refine (SCb.out).mono ?_; rintro e y1 ⟨ya, yn, yc, yvs, rfl, yo, yt, yb, yl⟩
            have Y1 := Lib.hid (bel_trans (B7.out) yb)
            have hus : (scan l).2.1 ≤ nl := by have := PS.out.2.1; have := hNL.out; omega
            have hfr := Lib.hid (show frms (scan l).1 = l.take (scan l).2.1 from PS.out.2.2)
            have hfl2 : (frms (scan l).1).length ≤ 1000000000 := by rw [hfr.out, List.length_take]; have := hNL.out; omega
            have PT := Lib.hid (put _ yvs (scan l).1 y1 ((HT.out).past Y1.out) (yt.frs yo) (fun f hf => (PS.out.1 f hf).2) hfl2)
            have hpe := Lib.hid (putErr_of_ok fun f hf => (PS.out.1 f hf).1)
            clear SCb yo yt yb yl hfl2
            go_wp2_with fail
            refine (PT.out).mono ?_; rintro e y2 ⟨za, zn, zc, rfl, zo, zb⟩
            have Y2 := Lib.hid (bel_trans Y1.out zb)
            rw [if_pos hpe.out, hfr.out] at zo
            rw [hpe.out]
            have hb2 := ((HB.out).past Y2.out).take (n := (scan l).2.1) (by have := hNL.out; omega)
            have SBt := Lib.hid (sameBytes _ _ _ _ y2 zo.bs hb2)
            have hdd : decide (l.take (scan l).2.1 = l.take (scan l).2.1) = true := by simp
            rw [hdd] at SBt
            have hcap := Lib.hid (show nl ≤ cbp from hcapb)
            clear PT hpe zo zb hfr hdd hb2
            generalize (scan l).2.1 = us at *
            have huc : us ≤ cbp := by have := hcap.out; omega
            have hu1 : (us : Int) ≤ (nl : Int) := by omega
            have hu2 : (0 : Int) ≤ (us : Int) := by omega
            have hu3 : decide ((us : Int) ≤ (nl : Int)) = true := by simpa using hus
            go_wp2_with fail
            refine (SBt.out).mono ?_; rintro e y3 ⟨rfl, ys⟩
            go_wp2_with fail
            go_ret
            exact ⟨rfl, bel_past Y2.out ys.past⟩
      · have hd2 : ((putErr fs : Int) == 0) = false := by simp; exact he
        clear o2 he PK
        generalize putErr fs = er at *
        go_wp2_with fail
        have SCb := Lib.hid (scanOf _ l w3 ((HT.out).past (B3.out)) ((HB.out).past (B3.out)) HOB.out (by have := hNL.out; omega))
        go_wp2_with fail
        refine (SCb.out).mono ?_; rintro e y1 ⟨ya, yn, yc, yvs, rfl, yo, yt, yb, yl⟩
        have Y1 := Lib.hid (bel_trans (B3.out) yb)
        have hus : (scan l).2.1 ≤ nl := by have := PS.out.2.1; have := hNL.out; omega
        have hfr := Lib.hid (show frms (scan l).1 = l.take (scan l).2.1 from PS.out.2.2)
        have hfl2 : (frms (scan l).1).length ≤ 1000000000 := by rw [hfr.out, List.length_take]; have := hNL.out; omega
        have PT := Lib.hid (put _ yvs (scan l).1 y1 ((HT.out).past Y1.out) (yt.frs yo) (fun f hf => (PS.out.1 f hf).2) hfl2)
        have hpe := Lib.hid (putErr_of_ok fun f hf => (PS.out.1 f hf).1)
        clear SCb yo yt yb yl hfl2
        go_wp2_with fail
        refine (PT.out).mono ?_; rintro e y2 ⟨za, zn, zc, rfl, zo, zb⟩
        have Y2 := Lib.hid (bel_trans Y1.out zb)
        rw [if_pos hpe.out, hfr.out] at zo
        rw [hpe.out]
        have hb2 := ((HB.out).past Y2.out).take (n := (scan l).2.1) (by have := hNL.out; omega)
        have SBt := Lib.hid (sameBytes _ _ _ _ y2 zo.bs hb2)
        have hdd : decide (l.take (scan l).2.1 = l.take (scan l).2.1) = true := by simp
        rw [hdd] at SBt
        have hcap := Lib.hid (show nl ≤ cbp from hcapb)
        clear PT hpe zo zb hfr hdd hb2
        generalize (scan l).2.1 = us at *
        have huc : us ≤ cbp := by have := hcap.out; omega
        have hu1 : (us : Int) ≤ (nl : Int) := by omega
        have hu2 : (0 : Int) ≤ (us : Int) := by omega
        have hu3 : decide ((us : Int) ≤ (nl : Int)) = true := by simpa using hus
        go_wp2_with fail
        refine (SBt.out).mono ?_; rintro e y3 ⟨rfl, ys⟩
        go_wp2_with fail
        go_ret
        exact ⟨rfl, bel_past Y2.out ys.past⟩
    · have hd : decide (20000 < (nl : Int)) = true := by simp; omega
      clear OW
      go_wp2_with fail
      go_ret
      exact ⟨rfl, B1.out⟩
  · clear OW hg
    go_wp2_with fail
    go_ret
    exact ⟨rfl, B1.out⟩
end Go.Proofs.YtkiagnlpnphghaaDoor
