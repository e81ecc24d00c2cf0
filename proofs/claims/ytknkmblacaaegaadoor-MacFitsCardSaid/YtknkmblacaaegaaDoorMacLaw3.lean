/- Contract of MacFits: it tells true. -/
import Derived.Test.YtknkmblacaaegaaDoorMacLaw
import Derived.Test.YtknkmblacaaegaaDoorZeros
namespace Go.Proofs.YtknkmblacaaegaaDoor
open Go.RowKit
set_option linter.unusedVariables false
set_option linter.unusedSimpArgs false
set_option maxRecDepth 100000

theorem not_cut {D : List Int} (h : D.length = 32) : decide (D.take 31 = D) = false := by
  refine decide_eq_false fun e => ?_
  have := congrArg List.length e
  rw [List.length_take] at this
  omega
theorem not_long {D : List Int} : decide (D ++ [0] = D) = false := by
  refine decide_eq_false fun e => ?_
  have := congrArg List.length e
  simp at this
theorem not_nil {D : List Int} (h : D.length = 32) : decide ([] = D) = false := by
  refine decide_eq_false fun e => ?_
  rw [← e] at h
  simp at h
theorem not_turned {D : List Int} {k : Nat} {n : Int} (h : D.length = 32) (ho : Oct D) (hk : k < 32) (hn : 0 < n ∧ n < 256) : decide (D.set k (bits .xor .u8 (nth D k) n) = D) = false := by
  refine decide_eq_false fun e => ?_
  have h1 : nth (D.set k (bits .xor .u8 (nth D k) n)) k = nth D k := by rw [e]
  rw [nth_of (by rw [List.length_set]; omega), List.getElem_set_self] at h1
  exact turned_ne (ho.nth (by omega)) hn h1

theorem pickAll (x : Int) (n : Nat) (hx : (Lit.int .i64 x).wf = true) (hn : n ≤ 1000000000000) (h0 : 0 < n) : ∃ c : Nat, c < n ∧ ∀ w, Calls Tryd.prog 16 #[.int .i64 x, .int .i64 n] w fun e w' => w = w' ∧ e = .returned (.int .i64 c) := by
  have a0 := Int.emod_nonneg x (show (n : Int) ≠ 0 by omega)
  have a1 := Int.emod_lt_of_pos x (show (0 : Int) < n by omega)
  obtain ⟨c, hc⟩ := Int.eq_ofNat_of_zero_le a0
  refine ⟨c, by omega, fun w => (pick x n w hx (by omega)).mono fun e w' ⟨h1, h2⟩ => ⟨h1, ?_⟩⟩
  rw [h2, if_neg (by omega), hc]

set_option maxHeartbeats 8000000 in
theorem macFitsOf (v1 v2 : Value) (k b : List Int) (at' bit : Int) (w : World) (T : Tabs w) (h1 : Bs w v1 k) (h2 : Bs w v2 b) (o1 : Oct k) (o2 : Oct b) (wa : (Lit.int .i64 at').wf = true) (wb : (Lit.int .i64 bit).wf = true) :
    Calls Tryd.prog 5 #[v1, v2, .int .i64 at', .int .i64 bit] w (Gives (.bool true) w) := by
  obtain ⟨a1, c1, hs1⟩ := h1.shape
  obtain ⟨a2, c2, hs2⟩ := h2.shape
  have q1 := h1.len
  have q2 := h2.len
  subst hs1 hs2
  have HT := Lib.hid T
  have H1 := Lib.hid h1
  have H2 := Lib.hid h2
  have O1 := Lib.hid o1
  have O2 := Lib.hid o2
  have AW := Lib.hid (awakeOf w T)
  obtain ⟨m, hm32, hpk⟩ := pickAll at' 32 wa (by decide) (by decide)
  obtain ⟨s, hs8, hpb⟩ := pickAll bit 8 wb (by decide) (by decide)
  have PK := Lib.hid hpk
  have PB := fun W => Lib.hid ((hpb W).mono fun e w' ⟨h1, h2⟩ => (show e = _ ∧ w' = W from ⟨h2, h1.symm⟩))
  clear T h1 h2 o1 o2 hpk hpb wa wb
  generalize hn1 : k.length = n1 at *
  generalize hn2 : b.length = n2 at *
  have HN1 := Lib.hid hn1
  have HN2 := Lib.hid hn2
  clear hn1 hn2
  by_cases hbig : n1 ≤ 4000 ∧ n2 ≤ 4000
  · obtain ⟨m1, m2⟩ := hbig
    have d1 : decide ((4000 : Int) < (n1 : Int)) = false := by simp; omega
    have d2 : decide ((4000 : Int) < (n2 : Int)) = false := by simp; omega
    go_enter Tryd.func5, Tryd.ntmps5
    go_wp2_with fail
    with_reducible refine (AW.out).mono ?_
    rintro e w1 ⟨rfl, bl⟩
    have B1 := Lib.hid bl
    obtain ⟨D, hD⟩ : ∃ D, D = mac k b := ⟨_, rfl⟩
    have HDL : Hid (D.length = 32) := Lib.hid (by rw [hD]; exact mac_length _ _)
    have HDO : Hid (Oct D) := Lib.hid (by rw [hD]; exact mac_oct _ _)
    have TG := Lib.hid (macTag (.slice a1 n1 c1) (.slice a2 n2 c2) k b w1 ((HT.out).past B1.out) ((H1.out).past B1.out) ((H2.out).past B1.out) O1.out O2.out (by rw [HN1.out]; omega) (by rw [HN2.out]; omega))
    rw [← hD] at TG
    have MF := Lib.hid (fun (w' : World) (hb : Below w.heap.size w w') v3 tag (h3 : Bs w' v3 tag) => macFits (.slice a1 n1 c1) (.slice a2 n2 c2) v3 k b tag w' ((HT.out).past hb) ((H1.out).past hb) ((H2.out).past hb) h3 O1.out O2.out (by rw [HN1.out]; omega) (by rw [HN2.out]; omega))
    simp only [← hD] at MF
    have HD := Lib.hid hD
    clear hD bl AW
    go_wp2_with fail
    with_reducible refine (TG.out).mono ?_
    rintro e w2 ⟨g, rfl, hg, ha, bl⟩
    have B2 := Lib.hid (bel_past B1.out bl)
    have A2 := Lib.hid ha
    clear hg ha bl TG B1
    have MF1 := Lib.hid ((MF.out) w2 B2.out _ _ (ay_bs32 A2.out HDL.out))
    rw [show decide (D = D) = true from by simp] at MF1
    go_wp2_with fail
    with_reducible refine (MF1.out).mono ?_
    rintro e w3 ⟨rfl, bl⟩
    have B3 := Lib.hid (bel_past B2.out bl)
    have A3 := Lib.hid ((A2.out).past bl)
    clear bl MF1 B2 A2
    have MF2 := Lib.hid ((MF.out) w3 B3.out (.slice (some ⟨g, 0, none⟩) 31 32) (D.take 31) ((ay_bs32 A3.out HDL.out).take (by rw [HDL.out]; decide)))
    rw [not_cut HDL.out] at MF2
    go_wp2_with fail
    with_reducible refine (MF2.out).mono ?_
    rintro e w4 ⟨rfl, bl⟩
    have B4 := Lib.hid (bel_past B3.out bl)
    have A4 := Lib.hid ((A3.out).past bl)
    clear bl MF2 B3 A3
    have CB := Lib.hid (copyBytes (.slice (some ⟨g, 0, none⟩) 32 32) D w4 (ay_bs32 A4.out HDL.out) (by rw [HDL.out]; decide))
    rw [HDL.out] at CB
    go_wp2_with fail
    with_reducible refine (CB.out).mono ?_
    rintro e w5 ⟨a5, c5, rfl, ho5, bl⟩
    have B5 := Lib.hid (bel_past B4.out bl)
    have A5 := Lib.hid ((A4.out).past bl)
    have O5 := Lib.hid (ho5.alloc (.cells #[.int .u8 0] 5))
    have hz5 := bl.size
    clear bl ho5 CB
    have L5 := Lib.hid (bs_lit w5 0)
    go_wp2_with (at_builtin; refine wpList_append_want _ (by rfl) _ _ rfl w4.heap.size _ D rfl O5.out _ [0] rfl L5.out (by decide) (by rw [HDL.out]; decide) (by simp; omega) ?_)
    intro v6 w6 ho6 hg6
    have B5' := Lib.hid (bel_past B5.out (alloc_below w5 (.cells #[.int .u8 0] 5)))
    have A5' := Lib.hid ((A5.out).past (alloc_below w5 (.cells #[.int .u8 0] 5)))
    have hzw : w.heap.size ≤ w4.heap.size := (B4.out).size
    have B6 := Lib.hid ((B5'.out).grown (hg6.grown) (B5'.out).size (fun j hj => Nat.le_trans hzw ((O5.out).lt j hj).1))
    have A6 := Lib.hid ((A5'.out).grown (hg6.grown) (fun e => by have h1 := ((O5.out).lt g e).1; have h2 := (A4.out).lt; omega))
    obtain ⟨a6, c6, hs6⟩ := ho6.bs.shape
    rw [List.length_append, HDL.out] at hs6
    have hs6 : v6 = .slice a6 33 c6 := hs6
    subst hs6
    have MF3 := Lib.hid ((MF.out) w6 B6.out (.slice a6 33 c6) (D ++ [0]) ho6.bs)
    rw [not_long] at MF3
    clear ho6 hg6 O5 L5 B5 A5 B5' A5' B4 A4 hz5 hzw
    go_wp2_with fail
    with_reducible refine (MF3.out).mono ?_
    rintro e w7 ⟨rfl, bl⟩
    have B7 := Lib.hid (bel_past B6.out bl)
    have A7 := Lib.hid ((A6.out).past bl)
    clear bl MF3 B6 A6
    have MF4 := Lib.hid ((MF.out) w7 B7.out (.slice none 0 0) [] (Bs.nil _))
    rw [not_nil HDL.out] at MF4
    go_wp2_with fail
    with_reducible refine (MF4.out).mono ?_
    rintro e w8 ⟨rfl, bl⟩
    have B8 := Lib.hid (bel_past B7.out bl)
    have A8 := Lib.hid ((A7.out).past bl)
    clear bl MF4 B7 A7
    have CB := Lib.hid (copyBytes (.slice (some ⟨g, 0, none⟩) 32 32) D w8 (ay_bs32 A8.out HDL.out) (by rw [HDL.out]; decide))
    rw [HDL.out] at CB
    go_wp2_with fail
    with_reducible refine (CB.out).mono ?_
    rintro e w9 ⟨a9, c9, rfl, ho9, bl⟩
    have B9 := Lib.hid (bel_past B8.out bl)
    have A9 := Lib.hid ((A8.out).past bl)
    obtain ⟨h, c9', hv9, -⟩ := own_pos ho9 (by rw [HDL.out]; decide)
    rw [HDL.out] at hv9
    injection hv9 with e1 _ e3
    subst e1 e3
    have hgh : g < h := by have h1 := (ho9.lt h rfl).1; have h2 := (A8.out).lt; omega
    have hwh : w.heap.size ≤ h := by have h1 := (ho9.lt h rfl).1; have h2 := (B8.out).size; omega
    have O9 := Lib.hid ho9
    have HGH := Lib.hid hgh
    have HWH := Lib.hid hwh
    clear bl ho9 CB B8 A8 hgh hwh
    go_wp2_with fail
    refine ((PK.out) _).mono ?_; rintro e w10 ⟨rfl, rfl⟩
    obtain ⟨cg, fg⟩ := own_cells O9.out
    have cgm := cg m hm32
    have fgm := fg m
    have hx := (HDO.out).nth (j := m) (by rw [HDL.out]; exact hm32)
    clear cg fg
    have mi : (m : Int) < 32 := by omega
    have wk1 : IntKind.i64.wrap (m : Int) = (m : Int) := IntWalk.i64_in _ (by omega)
    have wk2 : IntKind.u64.wrap (s : Int) = (s : Int) := by rw [IntKind.wrap_u64]; omega
    go_wp2_with fail
    refine wp_region_still_tail 12 (by kernel_rfl) (by kernel_rfl) ?_
    simp only [List.take_succ_cons, List.take_zero, List.drop_succ_cons, List.drop_zero]
    repeat still_step
    still_call ((PB _).out)
    repeat still_step
    refine wpStill_nil ?_
    change wpList _ _ _ _ _ w9.drew
    have B10 := Lib.hid ((B9.out).trans (((Still.refl w9).drewN 1).below _))
    change Hid (Below w.heap.size w w9.drew) at B10
    have A10 := Lib.hid ((A9.out).past (((Still.refl w9).drewN 1).below _))
    change Hid (Ay 35 w9.drew g D) at A10
    have O10 := Lib.hid ((O9.out).drewN 1)
    change Hid (Own w9.drew w8.heap.size (.slice (some ⟨h, 0, none⟩) 32 c9) D) at O10
    have f10 : w9.drew.frozen? ⟨h, m, none⟩ = false := fgm
    have c10 : w9.drew.cell? ⟨h, m, none⟩ = some (.int .u8 (nth D m)) := cgm
    clear B9 A9 O9 cgm fgm wk1 wk2 mi PK PB
    generalize w9.drew = w10 at *
    go_wp2_with fail
    have hn : 0 < (2 : Int) ^ s % 256 ∧ (2 : Int) ^ s % 256 < 256 := by
      have h0 : (2 : Int) ^ s = ((2 ^ s : Nat) : Int) := (Int.natCast_pow 2 s).symm
      have h1 : (2 : Nat) ^ s < 256 := Nat.pow_lt_pow_right (a := 2) (n := 8) (by decide) hs8
      have h2 : 0 < (2 : Nat) ^ s := Nat.pow_pos (by decide)
      rw [h0]
      generalize (2 : Nat) ^ s = y at *
      omega
    generalize (2 : Int) ^ s % 256 = N at *
    have B11 := Lib.hid ((B10.out).setCell (p := ⟨h, m, none⟩) HWH.out (.int .u8 (bits .xor .u8 (nth D m) N)))
    have A11 := Lib.hid ((A10.out).grown (grownBy_setCell w10 ⟨h, m, none⟩ (.int .u8 (bits .xor .u8 (nth D m) N))) (by intro e; have := Option.some.inj e; have := HGH.out; dsimp only at *; omega))
    have O11 := Lib.hid ((O10.out).stored m (bits .xor .u8 (nth D m) N))
    have MF5 := Lib.hid ((MF.out) _ B11.out (.slice (some ⟨h, 0, none⟩) 32 c9) _ (O11.out).bs)
    rw [not_turned HDL.out HDO.out hm32 hn] at MF5
    clear B10 A10 O10 O11 f10 c10 hn hx
    generalize w10.setCell ⟨h, m, none⟩ (.int .u8 (bits .xor .u8 (nth D m) N)) = w11 at *
    with_reducible refine (MF5.out).mono ?_
    rintro e w12 ⟨rfl, bl⟩
    have B12 := Lib.hid (bel_past B11.out bl)
    have A12 := Lib.hid ((A11.out).past bl)
    clear bl MF5 B11 A11 MF
    by_cases hlong : 64 < n1
    · have d3 : decide ((64 : Int) < (n1 : Int)) = true := by simp; omega
      have SM := Lib.hid (shaSum32 (.slice a1 n1 c1) k w12 ((HT.out).past B12.out) ((H1.out).past B12.out) O1.out (by rw [HN1.out]; omega))
      have hmd : mac (digest k) b = D := by rw [mac_digest (by rw [HN1.out]; exact hlong), ← HD.out]
      have HMD := Lib.hid hmd
      clear hmd
      go_wp2_with fail
      with_reducible refine (SM.out).mono ?_
      rintro e w13 ⟨a13, c13, rfl, ho13, bl⟩
      have B13 := Lib.hid (bel_past B12.out bl)
      have A13 := Lib.hid ((A12.out).past bl)
      have TG := Lib.hid (macTag (.slice a13 32 c13) (.slice a2 n2 c2) (digest k) b w13 ((HT.out).past B13.out) ho13.bs ((H2.out).past B13.out) (digest_oct k) O2.out (by rw [digest_length]; decide) (by rw [HN2.out]; omega))
      rw [HMD.out] at TG
      clear ho13 bl SM B12 A12
      go_wp2_with fail
      with_reducible refine (TG.out).mono ?_
      rintro e w14 ⟨q, rfl, hq, ha, bl⟩
      have B14 := Lib.hid (bel_past B13.out bl)
      have SB := Lib.hid (sameBytes_yes (ay_bs32 ha HDL.out) (ay_bs32 ((A13.out).past bl) HDL.out) rfl)
      clear hq ha bl TG B13 A13
      go_wp2_with fail
      with_reducible refine (SB.out).mono ?_
      rintro e w15 ⟨rfl, bl⟩
      have B15 := Lib.hid (bel_past B14.out bl)
      clear bl SB B14
      go_wp2_with fail
      go_ret
      exact ⟨rfl, B15.out⟩
    · have d3 : decide ((64 : Int) < (n1 : Int)) = false := by simp; omega
      have CB := Lib.hid (copyBytes (.slice a1 n1 c1) k w12 ((H1.out).past B12.out) (by rw [HN1.out]; omega))
      rw [HN1.out] at CB
      have hmz : mac (k ++ List.replicate (64 - n1) 0) b = D := by rw [← HN1.out, mac_zeros (by rw [HN1.out]; omega), ← HD.out]
      have HMZ := Lib.hid hmz
      obtain ⟨z, hz⟩ : ∃ z : Nat, z = 64 - n1 := ⟨_, rfl⟩
      have hzi : (64 : Int) - (n1 : Int) = (z : Int) := by omega
      rw [← hz] at HMZ
      have HZ := Lib.hid (show n1 + z = 64 by omega)
      have HZI := Lib.hid hzi
      clear hmz hz hzi
      go_wp2_with fail
      with_reducible refine (CB.out).mono ?_
      rintro e w13 ⟨a13, c13, rfl, ho13, bl⟩
      have B13 := Lib.hid (bel_past B12.out bl)
      have A13 := Lib.hid ((A12.out).past bl)
      have O13 := Lib.hid ho13
      have hz13 := bl.size
      have hzw : w.heap.size ≤ w12.heap.size := (B12.out).size
      have hA12 := (A12.out).lt
      clear ho13 bl CB B12 A12
      go_wp2_with (at_builtin; refine wpList_append_noughts _ rfl _ _ rfl w12.heap.size _ k rfl O13.out _ z rfl (congrArg _ HZI.out) (by rw [HN1.out]; have := HZ.out; omega) hz13 ?_)
      intro v14 w14 ho14 hg14
      have B14 := Lib.hid ((B13.out).grown hg14 (B13.out).size (fun j hj => Nat.le_trans hzw ((O13.out).lt j hj).1))
      have A14 := Lib.hid ((A13.out).grown hg14 (fun e => by have h1 := ((O13.out).lt g e).1; omega))
      obtain ⟨a14, c14, hs14⟩ := ho14.bs.shape
      rw [List.length_append, List.length_replicate, HN1.out, HZ.out] at hs14
      subst hs14
      have TG := Lib.hid (macTag (.slice a14 64 c14) (.slice a2 n2 c2) (k ++ List.replicate z 0) b w14 ((HT.out).past B14.out) ho14.bs ((H2.out).past B14.out) ((O1.out).append (zeros_oct _)) O2.out (by rw [List.length_append, List.length_replicate, HN1.out, HZ.out]; decide) (by rw [HN2.out]; omega))
      rw [HMZ.out] at TG
      clear ho14 hg14 B13 A13 O13 hz13 hzw hA12
      go_wp2_with fail
      with_reducible refine (TG.out).mono ?_
      rintro e w15 ⟨q, rfl, hq, ha, bl⟩
      have B15 := Lib.hid (bel_past B14.out bl)
      have SB := Lib.hid (sameBytes_yes (ay_bs32 ha HDL.out) (ay_bs32 ((A14.out).past bl) HDL.out) rfl)
      clear hq ha bl TG B14 A14
      go_wp2_with fail
      with_reducible refine (SB.out).mono ?_
      rintro e w16 ⟨rfl, bl⟩
      have B16 := Lib.hid (bel_past B15.out bl)
      clear bl SB B15
      go_wp2_with fail
      go_ret
      exact ⟨rfl, B16.out⟩
  · by_cases m1 : n1 ≤ 4000
    · have d1 : decide ((4000 : Int) < (n1 : Int)) = false := by simp; omega
      have d2 : decide ((4000 : Int) < (n2 : Int)) = true := by simp; omega
      clear hbig
      go_enter Tryd.func5, Tryd.ntmps5
      go_wp2_with fail
      with_reducible refine (AW.out).mono ?_
      rintro e w1 ⟨rfl, bl⟩
      go_wp2_with fail
      go_ret
      exact ⟨rfl, bl⟩
    · have d1 : decide ((4000 : Int) < (n1 : Int)) = true := by simp; omega
      clear hbig
      go_enter Tryd.func5, Tryd.ntmps5
      go_wp2_with fail
      with_reducible refine (AW.out).mono ?_
      rintro e w1 ⟨rfl, bl⟩
      go_wp2_with fail
      go_ret
      exact ⟨rfl, bl⟩
end Go.Proofs.YtknkmblacaaegaaDoor
