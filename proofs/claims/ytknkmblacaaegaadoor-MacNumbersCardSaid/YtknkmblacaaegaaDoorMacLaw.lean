/- Contracts of awake, MacTags, MacNumbers and MacFits: they tell true. -/
import Derived.Test.YtknkmblacaaegaaDoorMacTag
import Derived.Test.YtknkmblacaaegaaDoorMacRef
import Derived.Lib.SlBytesConst
namespace Go.Proofs.YtknkmblacaaegaaDoor
open Go.RowKit
set_option linter.unusedVariables false
set_option linter.unusedSimpArgs false
set_option maxRecDepth 100000

def jefe : List Int := [74, 101, 102, 101]
def want : List Int := [119, 104, 97, 116, 32, 100, 111, 32, 121, 97, 32, 119, 97, 110, 116, 32, 102, 111, 114, 32, 110, 111, 116, 104, 105, 110, 103, 63]
def jtag : List Int := [91, 220, 193, 70, 191, 96, 117, 78, 106, 4, 36, 38, 8, 149, 117, 199, 90, 0, 63, 8, 157, 39, 57, 131, 157, 236, 88, 185, 100, 236, 56, 67]
theorem jefe_tag : mac jefe want = jtag := by decide +kernel
theorem jefe_oct : Oct jefe := by unfold Oct; decide
theorem want_oct : Oct want := by unfold Oct; decide

set_option maxHeartbeats 4000000 in
theorem awakeOf (w : World) (T : Tabs w) :
    Calls Tryd.prog 6 #[] w (Gives (.bool true) w) := by
  have HT := Lib.hid T
  clear T
  have kc : ∀ (W : World) (C : Array Value) (n c N : Nat), W.heap.size = N → (convert 22 22 (.slice (some ⟨N, 0, none⟩) n c)).run Tryd.prog (W.alloc (.cells C 5)) = .ok (.slice (some ⟨N, 0, none⟩) n c) (W.alloc (.cells C 5 (C.size, C.size + 1))) := fun W C n c N h => by
    subst h; exact Lib.run_convert_bytes_const (P := Tryd.prog) W 22 5 C n c Tryd.underlying22 Tryd.underlying5
  go_enter Tryd.func6, Tryd.ntmps6
  go_wp2_with fail
  have b1 : Below w.heap.size w (w.alloc (.cells (bv jefe).toArray 5 (4, 5))) := alloc_below w _
  have b2 := alloc_below (w.alloc (.cells (bv jefe).toArray 5 (4, 5))) (.cells (bv want).toArray 5 (28, 29))
  have e1 : Bs ((w.alloc (.cells (bv jefe).toArray 5 (4, 5))).alloc (.cells (bv want).toArray 5 (28, 29))) (.slice (some ⟨w.heap.size, 0, none⟩) 4 4) jefe := (bs_text w jefe (by decide) (4, 5)).past b2
  have e2 : Bs ((w.alloc (.cells (bv jefe).toArray 5 (4, 5))).alloc (.cells (bv want).toArray 5 (28, 29))) (.slice (some ⟨w.heap.size + 1, 0, none⟩) 28 28) want := by
    have := bs_text (w.alloc (.cells (bv jefe).toArray 5 (4, 5))) want (by decide) (28, 29)
    simpa [want] using this
  have MT := macTag _ _ jefe want _ ((HT.out).past (b1.trans (b2.mono b1.size))) e1 e2 jefe_oct want_oct (by decide) (by decide)
  rw [jefe_tag] at MT
  change Calls _ _ _ ((w.alloc (.cells (bv jefe).toArray 5 (4, 5))).alloc (.cells (bv want).toArray 5 (28, 29))) _
  refine MT.mono ?_
  rintro e w2 ⟨g, rfl, hg, ha, bl⟩
  have bw := b1.trans (b2.mono b1.size)
  have B2 := Lib.hid (bel_past bw bl)
  have E1 := Lib.hid (e1.past bl)
  have E2 := Lib.hid (e2.past bl)
  have A2 := Lib.hid ha
  have hgw : w.heap.size + 1 < g := by simp at hg; omega
  have HGW := Lib.hid hgw
  clear b1 b2 e1 e2 MT bw bl ha hg hgw kc
  go_wp2_with fail
  have T8 : Bs w2 (.slice (some ⟨g, 0, none⟩) 8 32) [91, 220, 193, 70, 191, 96, 117, 78] := (ay_bs32 A2.out (by rfl)).take (n := 8) (by decide)
  have SB := sameBytes_yes (T8.alloc (.cells (bv [91, 220, 193, 70, 191, 96, 117, 78]).toArray 5)) (bs_list w2 [91, 220, 193, 70, 191, 96, 117, 78] (by decide)) rfl
  refine SB.mono ?_
  rintro e w3 ⟨rfl, bl⟩
  have bl3 := below_alloc bl
  have B3 := Lib.hid (bel_past (B2.out) bl3)
  have E3 := Lib.hid ((E1.out).past bl3)
  have F3 := Lib.hid ((E2.out).past bl3)
  have A3 := Lib.hid ((A2.out).past bl3)
  clear T8 SB bl bl3 B2 E1 E2 A2
  have c30 : w3.cell? ⟨g, 30, none⟩ = some (.int .u8 56) := (A3.out).cell (j := 30) (by decide)
  have c31 : w3.cell? ⟨g, 31, none⟩ = some (.int .u8 67) := (A3.out).cell (j := 31) (by decide)
  go_wp2_with fail
  have MF := macFits _ _ _ jefe want jtag w3 ((HT.out).past B3.out) E3.out F3.out (ay_bs32 A3.out (by rfl)) jefe_oct want_oct (by decide) (by decide)
  rw [jefe_tag, show decide (jtag = jtag) = true from by simp] at MF
  refine MF.mono ?_
  rintro e w4 ⟨rfl, bl⟩
  have B4 := Lib.hid (bel_past (B3.out) bl)
  have E4 := Lib.hid ((E3.out).past bl)
  have F4 := Lib.hid ((F3.out).past bl)
  have A4 := Lib.hid ((A3.out).past bl)
  clear MF bl B3 E3 F3 A3 c30 c31
  have c31 : w4.cell? ⟨g, 31, none⟩ = some (.int .u8 67) := (A4.out).cell (j := 31) (by decide)
  have z31 := (A4.out).cel.frozen 31
  go_wp2_with fail
  have bs5 := (Below.refl g w4).setCell (p := ⟨g, 31, none⟩) (Nat.le_refl _) (.int .u8 (bits .xor .u8 67 1))
  have b5 := (B4.out).setCell (p := ⟨g, 31, none⟩) (by have := HGW.out; show w.heap.size ≤ g; omega) (.int .u8 (bits .xor .u8 67 1))
  have e5 := (E4.out).below (B := g) (by intro a n c hv hn; cases hv; have := HGW.out; show w.heap.size < g; omega) bs5
  have f5 := (F4.out).below (B := g) (by intro a n c hv hn; cases hv; have := HGW.out; show w.heap.size + 1 < g; omega) bs5
  have MF := macFits _ _ _ jefe want (jtag.set 31 (bits .xor .u8 67 1)) _ ((HT.out).past b5) e5 f5 (ay_bs32 ((A4.out).set 31 _) (by rfl)) jefe_oct want_oct (by decide) (by decide)
  rw [jefe_tag, show decide (jtag.set 31 (bits .xor .u8 67 1) = jtag) = false from by decide +kernel] at MF
  refine MF.mono ?_
  rintro e w6 ⟨rfl, bl⟩
  have B6 := Lib.hid (bel_past b5 bl)
  clear MF bl bs5 b5 e5 f5 B4 E4 F4 A4 c31 z31
  go_wp2_with fail
  go_ret
  exact ⟨rfl, B6.out⟩

theorem rowz_two {W : World} {B g1 g2 : Nat} {x1 x2 : List Int} (h1 : Ay 35 W g1 x1) (l1 : x1.length = 32) (h2 : Ay 35 W g2 x2) (l2 : x2.length = 32) (b1 : B ≤ g1) (b2 : B ≤ g2) (hne : g1 ≠ g2) :
    Rowz W B (vth [.slice (some ⟨g1, 0, none⟩) 32 32, .slice (some ⟨g2, 0, none⟩) 32 32]) 2 (fun _ => 32) := by
  refine ⟨fun j hj => ?_, fun i j hi hj hij Y ha hb => ?_⟩
  · match j, hj with
    | 0, _ => exact ⟨x1, l1, h1.owy arbT l1 b1⟩
    | 1, _ => exact ⟨x2, l2, h2.owy arbT l2 b2⟩
  · match i, j, hi, hj with
    | 0, 0, _, _ => exact hij rfl
    | 1, 1, _, _ => exact hij rfl
    | 0, 1, _, _ => simp [vth, Value.ownBlock] at ha hb; omega
    | 1, 0, _, _ => simp [vth, Value.ownBlock] at ha hb; omega

/-- What MacTags has made: two tags, three slices that are lent. -/
structure MT (w w3 wr : World) (g1 g2 : Nat) (b1 b2 b3 : Nat) (x1 x2 x3 : Value) (k b tag D : List Int) : Prop where
  bel : Below w.heap.size w wr
  bel3 : Below w3.heap.size w3 wr
  t1 : Ay 35 wr g1 D
  t2 : Ay 35 wr g2 D
  l1 : Lent wr b1 x1 k
  l2 : Lent wr b2 x2 b
  l3 : Lent wr b3 x3 tag
theorem MT.past {w w3 wr w' : World} {g1 g2 b1 b2 b3 : Nat} {x1 x2 x3 : Value} {k b tag D : List Int} (h : MT w w3 wr g1 g2 b1 b2 b3 x1 x2 x3 k b tag D) (hb : Below wr.heap.size wr w') : MT w w3 w' g1 g2 b1 b2 b3 x1 x2 x3 k b tag D :=
  ⟨bel_past h.bel hb, bel_past h.bel3 hb, h.t1.past hb, h.t2.past hb, h.l1.past hb, h.l2.past hb, h.l3.past hb⟩

set_option maxHeartbeats 8000000 in
theorem macTagsOf (v1 v2 v3 : Value) (k b tag : List Int) (w : World) (T : Tabs w) (h1 : Bs w v1 k) (h2 : Bs w v2 b) (h3 : Bs w v3 tag) (o1 : Oct k) (o2 : Oct b) (o3 : Oct tag) :
    Calls Tryd.prog 3 #[v1, v2, v3] w (Gives (.bool true) w) := by
  obtain ⟨a1, c1, hs1⟩ := h1.shape
  obtain ⟨a2, c2, hs2⟩ := h2.shape
  obtain ⟨a3, c3, hs3⟩ := h3.shape
  have q1 := h1.len
  have q2 := h2.len
  have q3 := h3.len
  subst hs1 hs2 hs3
  have HT := Lib.hid T
  have H1 := Lib.hid h1
  have H2 := Lib.hid h2
  have H3 := Lib.hid h3
  have O1 := Lib.hid o1
  have O2 := Lib.hid o2
  have AW := Lib.hid (fun w' (hb : Below w.heap.size w w') => awakeOf w' (T.past hb))
  clear T h1 h2 h3 o1 o2 o3
  generalize hn1 : k.length = n1 at *
  generalize hn2 : b.length = n2 at *
  generalize hn3 : tag.length = n3 at *
  have HN1 := Lib.hid hn1
  have HN2 := Lib.hid hn2
  have HN3 := Lib.hid hn3
  clear hn1 hn2 hn3
  by_cases hbig : n1 ≤ 4000 ∧ n2 ≤ 4000 ∧ n3 ≤ 4000
  · obtain ⟨m1, m2, m3⟩ := hbig
    have d1 : decide ((4000 : Int) < (n1 : Int)) = false := by simp; omega
    have d2 : decide ((4000 : Int) < (n2 : Int)) = false := by simp; omega
    have d3 : decide ((4000 : Int) < (n3 : Int)) = false := by simp; omega
    have LE1 := Lib.hid (lentBytes (.slice a1 n1 c1) k w (H1.out) (by rw [HN1.out]; omega))
    go_enter Tryd.func3, Tryd.ntmps3
    go_wp2_with fail
    with_reducible refine (LE1.out).mono ?_
    rintro e w1 ⟨x1, rfl, lent1, bl⟩
    have B1 := Lib.hid bl
    have L1 := Lib.hid lent1
    have LE2 := Lib.hid (lentBytes (.slice a2 n2 c2) b w1 ((H2.out).past B1.out) (by rw [HN2.out]; omega))
    clear lent1 bl LE1
    go_wp2_with fail
    with_reducible refine (LE2.out).mono ?_
    rintro e w2 ⟨x2, rfl, lent2, bl⟩
    have B2 := Lib.hid (bel_past B1.out bl)
    have L1' := Lib.hid ((L1.out).past bl)
    have L2 := Lib.hid lent2
    have LE3 := Lib.hid (lentBytes (.slice a3 n3 c3) tag w2 ((H3.out).past B2.out) (by rw [HN3.out]; omega))
    clear lent2 bl LE2 L1 B1
    go_wp2_with fail
    with_reducible refine (LE3.out).mono ?_
    rintro e w3 ⟨x3, rfl, lent3, bl⟩
    have B3 := Lib.hid (bel_past B2.out bl)
    have L1 := Lib.hid ((L1'.out).past bl)
    have L2' := Lib.hid ((L2.out).past bl)
    have L3 := Lib.hid lent3
    have TG := Lib.hid (fun w' (hb : Below w3.heap.size w3 w') => macTag x1 x2 k b w' ((HT.out).past (bel_past B3.out hb)) (((L1.out).past hb).bs) (((L2'.out).past hb).bs) O1.out O2.out (by rw [HN1.out]; omega) (by rw [HN2.out]; omega))
    clear lent3 bl LE3 L1' L2 B2
    obtain ⟨D, hD⟩ : ∃ D, D = mac k b := ⟨_, rfl⟩
    rw [← hD] at TG
    have HDL : Hid (D.length = 32) := Lib.hid (by rw [hD]; exact mac_length _ _)
    have HD := Lib.hid hD
    clear hD
    go_wp2_with fail
    with_reducible refine ((TG.out) w3 (Below.refl _ _)).mono ?_
    rintro e w4 ⟨g1, rfl, hg1, ha1, bl4⟩
    go_wp2_with fail
    with_reducible refine ((TG.out) w4 bl4).mono ?_
    rintro e w5 ⟨g2, rfl, hg2, ha2, bl5⟩
    have C5 := Lib.hid (bl4.trans (bl5.mono bl4.size))
    have B5 := Lib.hid (bel_past B3.out (C5.out))
    have A5 := Lib.hid (ha1.past bl5)
    have G5 := Lib.hid ha2
    have hne : g1 ≠ g2 := by have := ha1.lt; omega
    have HNE := Lib.hid hne
    have HG1 := Lib.hid hg1
    have hg2' : w3.heap.size ≤ g2 := by have := bl4.size; omega
    have HG2 := Lib.hid hg2'
    have M5 : Hid (MT w w3 w5 g1 g2 _ _ _ x1 x2 x3 k b tag D) := Lib.hid ⟨B5.out, C5.out, A5.out, G5.out, (L1.out).past C5.out, (L2'.out).past C5.out, (L3.out).past C5.out⟩
    have hz3 := (B3.out).size
    clear hg1 hg2 hg2' ha1 ha2 bl4 bl5 hne TG L1 L2' L3 A5 G5 C5 B3
    have RT := Lib.hid (refTag (.slice a1 n1 c1) (.slice a2 n2 c2) k b w5 ((H1.out).past B5.out) ((H2.out).past B5.out) O1.out O2.out (by rw [HN1.out]; omega) (by rw [HN2.out]; omega))
    rw [← HD.out] at RT
    clear B5
    go_wp2_with fail
    with_reducible refine (RT.out).mono ?_
    rintro e w6 ⟨a6, c6, rfl, ho6, bl⟩
    have M6 := Lib.hid ((M5.out).past bl)
    have SB := Lib.hid (sameBytes_yes (ay_bs32 (M6.out).t1 HDL.out) ho6.bs rfl)
    clear ho6 bl RT M5
    go_wp2_with fail
    with_reducible refine (SB.out).mono ?_
    rintro e w7 ⟨rfl, bl⟩
    have M7 := Lib.hid ((M6.out).past bl)
    have MF := Lib.hid (macFits x1 x2 x3 k b tag w7 ((HT.out).past (M7.out).bel) (M7.out).l1.bs (M7.out).l2.bs (M7.out).l3.bs O1.out O2.out (by rw [HN1.out]; omega) (by rw [HN2.out]; omega))
    have RF := Lib.hid (fun w' (hb : Below w.heap.size w w') => refFits (.slice a1 n1 c1) (.slice a2 n2 c2) (.slice a3 n3 c3) k b tag w' ((H1.out).past hb) ((H2.out).past hb) ((H3.out).past hb) O1.out O2.out (by rw [HN1.out]; omega) (by rw [HN2.out]; omega))
    generalize decide (tag = mac k b) = dd at MF RF
    clear bl SB M6
    go_wp2_with fail
    with_reducible refine (MF.out).mono ?_
    rintro e w8 ⟨rfl, bl⟩
    have M8 := Lib.hid ((M7.out).past bl)
    have RF8 := Lib.hid ((RF.out) w8 (M8.out).bel)
    clear bl MF RF M7
    go_wp2_with fail
    with_reducible refine (RF8.out).mono ?_
    rintro e w9 ⟨rfl, bl⟩
    have M9 := Lib.hid ((M8.out).past bl)
    have MF := Lib.hid (macFits x1 x2 (.slice (some ⟨g1, 0, none⟩) 32 32) k b D w9 ((HT.out).past (M9.out).bel) (M9.out).l1.bs (M9.out).l2.bs (ay_bs32 (M9.out).t1 HDL.out) O1.out O2.out (by rw [HN1.out]; omega) (by rw [HN2.out]; omega))
    rw [← HD.out, show decide (D = D) = true from by simp] at MF
    have hdd : (dd != dd) = false := by cases dd <;> rfl
    clear bl RF8 M8
    go_wp2_with fail
    with_reducible refine (MF.out).mono ?_
    rintro e w10 ⟨rfl, bl⟩
    have M10 := Lib.hid ((M9.out).past bl)
    have KB := Lib.hid (keptBytes x1 (.slice a1 n1 c1) _ k w10 (M10.out).l1 ((H1.out).past (M10.out).bel) (by rw [HN1.out]; omega))
    clear bl MF M9 hdd
    go_wp2_with fail
    with_reducible refine (KB.out).mono ?_
    rintro e w11 ⟨rfl, st⟩
    have M11 := Lib.hid ((M10.out).past (st.below _))
    have KB := Lib.hid (keptBytes x2 (.slice a2 n2 c2) _ b w11 (M11.out).l2 ((H2.out).past (M11.out).bel) (by rw [HN2.out]; omega))
    clear st M10
    go_wp2_with fail
    with_reducible refine (KB.out).mono ?_
    rintro e w12 ⟨rfl, st⟩
    have M12 := Lib.hid ((M11.out).past (st.below _))
    have KB := Lib.hid (keptBytes x3 (.slice a3 n3 c3) _ tag w12 (M12.out).l3 ((H3.out).past (M12.out).bel) (by rw [HN3.out]; omega))
    clear st M11
    go_wp2_with fail
    with_reducible refine (KB.out).mono ?_
    rintro e w13 ⟨rfl, st⟩
    have M13 := Lib.hid ((M12.out).past (st.below _))
    have M14 := Lib.hid ((M13.out).past (alloc_below w13 (.cells #[.slice (some ⟨g1, 0, none⟩) 32 32, .slice (some ⟨g2, 0, none⟩) 32 32] 22)))
    have QA := Lib.hid (apartBytesZ (.slice (some ⟨w13.heap.size, 0, none⟩) 2 2) [.slice (some ⟨g1, 0, none⟩) 32 32, .slice (some ⟨g2, 0, none⟩) 32 32] _ w3.heap.size _ (vals_lit w13 [.slice (some ⟨g1, 0, none⟩) 32 32, .slice (some ⟨g2, 0, none⟩) 32 32] (by simp)) (rowz_two (M14.out).t1 HDL.out (M14.out).t2 HDL.out HG1.out HG2.out HNE.out) ((M14.out).bel3).size (by simp) (fun j hj => by decide))
    have BM := Lib.hid ((M14.out).bel)
    have hz14 := ((M14.out).bel3).size
    clear st KB M12 M13 M14
    go_wp2_with fail
    refine (QA.out).mono ?_
    rintro e w15 ⟨rfl, bl⟩
    have B15 := Lib.hid ((BM.out).trans (bl.mono hz3))
    have AW15 := Lib.hid ((AW.out) w15 B15.out)
    clear bl QA BM hz14
    go_wp2_with fail
    with_reducible refine (AW15.out).mono ?_
    rintro e w16 ⟨rfl, bl⟩
    have B16 := Lib.hid (bel_past B15.out bl)
    clear bl AW15 B15
    go_wp2_with fail
    go_ret
    exact ⟨rfl, B16.out⟩
  · have AW0 := Lib.hid ((AW.out) w (Below.refl _ _))
    by_cases m1 : n1 ≤ 4000
    · have d1 : decide ((4000 : Int) < (n1 : Int)) = false := by simp; omega
      by_cases m2 : n2 ≤ 4000
      · have d2 : decide ((4000 : Int) < (n2 : Int)) = false := by simp; omega
        have d3 : decide ((4000 : Int) < (n3 : Int)) = true := by simp; omega
        clear hbig
        go_enter Tryd.func3, Tryd.ntmps3
        go_wp2_with fail
        with_reducible refine (AW0.out).mono ?_
        rintro e w1 ⟨rfl, bl⟩
        go_wp2_with fail
        go_ret
        exact ⟨rfl, bl⟩
      · have d2 : decide ((4000 : Int) < (n2 : Int)) = true := by simp; omega
        clear hbig
        go_enter Tryd.func3, Tryd.ntmps3
        go_wp2_with fail
        with_reducible refine (AW0.out).mono ?_
        rintro e w1 ⟨rfl, bl⟩
        go_wp2_with fail
        go_ret
        exact ⟨rfl, bl⟩
    · have d1 : decide ((4000 : Int) < (n1 : Int)) = true := by simp; omega
      clear hbig
      go_enter Tryd.func3, Tryd.ntmps3
      go_wp2_with fail
      with_reducible refine (AW0.out).mono ?_
      rintro e w1 ⟨rfl, bl⟩
      go_wp2_with fail
      go_ret
      exact ⟨rfl, bl⟩
end Go.Proofs.YtknkmblacaaegaaDoor
