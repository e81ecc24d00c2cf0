/- A block's sixty-four words, in an array that is handed back as a value. -/
import Derived.Test.YtknkmblacaaegaaDoorShaStep
import Derived.Deep.DeepCutAuto
import Derived.Deep.RegionHeld3
namespace Go.Proofs.YtknkmblacaaegaaDoor
open Go.RowKit
set_option linter.unusedVariables false
set_option linter.unusedSimpArgs false
set_option maxRecDepth 100000

/-- The words made so far, and noughts. -/
def upTo (l : List Nat) : List Nat := l ++ List.replicate (64 - l.length) 0
theorem upTo_set {l : List Nat} (h : l.length < 64) (n : Nat) : (wv (upTo l)).set l.length (.int .u32 n) = wv (upTo (l ++ [n])) := by
  unfold wv upTo
  rw [show (Value.int .u32 (n : Nat)) = (fun n : Nat => Value.int .u32 (n : Nat)) n from rfl, ← List.map_set]
  congr 1
  rw [List.set_append_right _ _ (Nat.le_refl _), Nat.sub_self]
  obtain ⟨m, hm⟩ : ∃ m, 64 - l.length = m + 1 := ⟨63 - l.length, by omega⟩
  rw [hm, List.replicate_succ, List.set_cons_zero]
  simp only [List.length_append, List.length_singleton, List.append_assoc]
  rw [show 64 - (l.length + 1) = m from by omega]
  rfl
theorem upTo_cell {l : List Nat} {i : Nat} (h : i < l.length) : (wv (upTo l))[i]? = some (.int .u32 (wth l i : Nat)) := by
  unfold wv upTo
  rw [List.getElem?_map, List.getElem?_append_left h]
  simp [wth, List.getD, h]
theorem sm_or {x : Nat} (h : x < 4294967296) (i j k : Nat) : bits .xor .u32 (bits .xor .u32 ((rotr i x : Nat) : Int) ((rotr j x : Nat) : Int)) ((x : Int) / ((2 ^ k : Nat) : Int)) = ((rotr i x ^^^ rotr j x ^^^ x / 2 ^ k : Nat) : Int) := by
  rw [show (x : Int) / ((2 ^ k : Nat) : Int) = ((x / 2 ^ k : Nat) : Int) from by simp, Go.u32_xor_nat _ _ (rotr_lt h) (rotr_lt h), Go.u32_xor_nat _ _ (xor_lt (rotr_lt h) (rotr_lt h)) (Nat.lt_of_le_of_lt (Nat.div_le_self _ _) h)]
theorem upTo_full {l : List Nat} (h : l.length = 64) : upTo l = l := by unfold upTo; rw [h]; simp
theorem upTo_any {l : List Nat} {i : Nat} (h : i < 64) : ∃ v, (wv (upTo l))[i]? = some v := by
  have hl : 64 ≤ (wv (upTo l)).length := by simp [wv, upTo]; omega
  exact ⟨_, List.getElem?_eq_getElem (by omega)⟩

set_option maxHeartbeats 2000000 in
theorem words (v : Value) (l : List Int) (w : World) (h : Bs w v l) (ho : Oct l) (hl : l.length = 64) :
    Calls Tryd.prog 87 #[v] w fun e w' => e = .returned (.agg (wv (wds l)).toArray) ∧ Below w.heap.size w w' := by
  obtain ⟨b, off, cap, hsh, hc1, hcm, hb, cells⟩ := h.at (by omega)
  subst hsh
  rw [hl] at hc1 ⊢
  have HO := Lib.hid ho
  have HL := Lib.hid hl
  have HC := Lib.hid cells
  have HB := Lib.hid hb
  clear h ho hl cells hb
  go_enter Tryd.func87, Tryd.ntmps87
  go_upto_region 2 with fail
  change Code.wp _ _ _ _ ((w.alloc (.cells (wv (upTo [])).toArray 181)).alloc (.cells (wv (upTo [])).toArray 181))
  have A1 : Cel ((w.alloc (.cells (wv (upTo [])).toArray 181)).alloc (.cells (wv (upTo [])).toArray 181)) w.heap.size (wv (upTo [])) := (Cel.made w _ _).alloc _
  have R1 : Cel ((w.alloc (.cells (wv (upTo [])).toArray 181)).alloc (.cells (wv (upTo [])).toArray 181)) (w.heap.size + 1) (wv (upTo [])) := by
    have := Cel.made (w.alloc (.cells (wv (upTo [])).toArray 181)) (wv (upTo [])) 181
    simpa using this
  have B1 := bel_two (Below.refl w.heap.size w) (.cells (wv (upTo [])).toArray 181) (.cells (wv (upTo [])).toArray 181)
  have b1 : b < ((w.alloc (.cells (wv (upTo [])).toArray 181)).alloc (.cells (wv (upTo [])).toArray 181)).heap.size := by have := HB.out; simp; omega
  have A1 := Lib.hid A1
  have R1 := Lib.hid R1
  have B1 := Lib.hid B1
  have hb1 := Lib.hid b1
  clear b1
  generalize (w.alloc (.cells (wv (upTo [])).toArray 181)).alloc (.cells (wv (upTo [])).toArray 181) = w1 at *
  generalize hA : w.heap.size = A at *
  have HA := Lib.hid hA
  clear hA
  obtain ⟨R, hR⟩ : ∃ R, R = A + 1 := ⟨_, rfl⟩
  rw [← hR] at R1 ⊢
  have HR := Lib.hid hR
  clear hR
  go_wp2
  go_loopw [10] (fun i wr => ∃ k : Nat, k ≤ 16 ∧ i = .int .i64 k ∧ Hid (Cel wr R (wv (upTo ((List.range k).map (wd l))))) ∧ Hid (Cel wr A (wv (upTo []))) ∧ Hid (Below A w wr)) (fun i _ => 16 - (intOf i).toNat)
  case atStart => exact ⟨0, Nat.zero_le _, rfl, R1, A1, B1⟩
  case round =>
    clear R1 A1 B1
    obtain ⟨k, hk, rfl, R2, A2, B2⟩ := hrel
    by_cases hlt : k < 16
    · have hd : decide ((k : Int) < 16) = true := by simp; omega
      have hsl : ((k : Int) * 4 : Int) = ((4 * k : Nat) : Int) := by omega
      have i1 : (k : Int) < 64 := by omega
      have z := (R2.out).frozen k
      obtain ⟨v0, hv0⟩ := upTo_any (l := (List.range k).map (wd l)) (i := k) (by omega)
      have ck := (R2.out).cell hv0
      have hdr : (l.drop (4 * k)).length = 64 - 4 * k := by have := HL.out; simp; omega
      have hbs : Bs wr (.slice (some ⟨b, off + 4 * k, none⟩) (64 - 4 * k) (cap - 4 * k)) (l.drop (4 * k)) := by
        rw [← hdr]
        refine Bs.mk (by rw [hdr]; omega) (by omega) fun j hj => ?_
        rw [hdr] at hj
        rw [nth_drop, Nat.add_assoc]
        exact ((B2.out).cell (p := ⟨b, off + (4 * k + j), none⟩) (by have := HB.out; have := HA.out; omega)).trans ((HC.out) (4 * k + j) (by have := HL.out; omega))
      have W := Lib.hid (wordAt _ _ wr hbs ((HO.out).drop (4 * k)) (by rw [hdr]; omega))
      have hwd : wd (l.drop (4 * k)) 0 = wd l k := by unfold wd; simp only [nth_drop]; rfl
      rw [hwd] at W
      clear hbs hdr
      go_wp2_with fail
      refine (W.out).mono ?_; rintro e2 w2 ⟨rfl, m, rfl⟩
      have R3 := Lib.hid (((R2.out).drewN m).set k (.int .u32 (wd l k : Nat)))
      have A3 := Lib.hid (((A2.out).drewN m).far ⟨R, k, none⟩ (.int .u32 (wd l k : Nat)) (by have := HR.out; simp; omega))
      have B3 := Lib.hid ((B2.out).trans (((Still.refl wr).drewN m).below A) |>.setCell (p := ⟨R, k, none⟩) (by have := HR.out; simp; omega) (.int .u32 (wd l k : Nat)))
      clear R2 A2 B2 W
      have hs := upTo_set (l := (List.range k).map (wd l)) (by simp; omega) (wd l k)
      rw [show ((List.range k).map (wd l)).length = k from by simp, show (List.range k).map (wd l) ++ [wd l k] = (List.range (k + 1)).map (wd l) from by simp [List.range_succ]] at hs
      rw [hs] at R3
      clear hs
      generalize wd l k = x at *
      go_wp2
      go_roundw
      case rel => exact ⟨k + 1, by omega, by go_num, R3, A3, B3⟩
      case measure => simp [intOf]; omega
    · have hd : decide ((k : Int) < 16) = false := by simp; omega
      obtain rfl : k = 16 := by omega
      have F1 := Lib.hid (show (List.range 16).map (wd l) = (List.range 16).map (wd l) from rfl)
      have R2 : Hid (Cel wr R (wv (upTo (ext ((List.range 16).map (wd l)) 0)))) := R2
      have FW := Lib.hid (first_wrd (HO.out) 16)
      have FL : Hid (((List.range 16).map (wd l)).length = 16) := Lib.hid (by simp)
      have HF : Hid (wds l = ext ((List.range 16).map (wd l)) 48) := Lib.hid rfl
      clear F1
      generalize (List.range 16).map (wd l) = F at *
      clear hd
      go_wp2
      rw [show ((16 : Nat) : Int) = 16 from rfl]
      go_loopw [5] (fun i wr => ∃ j : Nat, j ≤ 48 ∧ i = .int .i64 ((16 + j : Nat) : Int) ∧ Hid (Cel wr R (wv (upTo (ext F j)))) ∧ Hid (Cel wr A (wv (upTo []))) ∧ Hid (Below A w wr)) (fun i _ => 64 - (intOf i).toNat)
      case atStart => exact ⟨0, Nat.zero_le _, rfl, R2, A2, B2⟩
      case round =>
        clear R2 A2 B2
        obtain ⟨j, hj, rfl, R3, A3, B3⟩ := hrel
        have EL : Hid ((ext F j).length = 16 + j) := Lib.hid (by rw [ext_length, FL.out])
        by_cases hlt : j < 48
        · have NX : Hid (ext F (j + 1) = ext F j ++ [nextW (ext F j)]) := Lib.hid rfl
          have NW : Hid (nextW (ext F j) = (wth (ext F j) j + sm0 (wth (ext F j) (j + 1)) + wth (ext F j) (j + 9) + sm1 (wth (ext F j) (j + 14))) % 4294967296) := Lib.hid (by
            unfold nextW
            rw [EL.out, show 16 + j - 16 = j from by omega, show 16 + j - 15 = j + 1 from by omega, show 16 + j - 7 = j + 9 from by omega, show 16 + j - 2 = j + 14 from by omega])
          have c16 := (R3.out).cell (upTo_cell (l := ext F j) (i := j) (by have := EL.out; omega))
          have c15 := (R3.out).cell (upTo_cell (l := ext F j) (i := j + 1) (by have := EL.out; omega))
          have c7 := (R3.out).cell (upTo_cell (l := ext F j) (i := j + 9) (by have := EL.out; omega))
          have c2 := (R3.out).cell (upTo_cell (l := ext F j) (i := j + 14) (by have := EL.out; omega))
          have l16 := (ext_wrd FW.out j).wth j
          have l15 := (ext_wrd FW.out j).wth (j + 1)
          have l7 := (ext_wrd FW.out j).wth (j + 9)
          have l2 := (ext_wrd FW.out j).wth (j + 14)
          obtain ⟨v0, hv0⟩ := upTo_any (l := ext F j) (i := 16 + j) (by omega)
          have ck := (R3.out).cell hv0
          have z := (R3.out).frozen (16 + j)
          have hset := Lib.hid (upTo_set (l := ext F j) (by have := EL.out; omega) (nextW (ext F j)))
          rw [EL.out, ← NX.out] at hset
          clear hv0 NX
          generalize nextW (ext F j) = nx at *
          generalize wth (ext F j) j = x16 at *
          generalize wth (ext F j) (j + 1) = x15 at *
          generalize wth (ext F j) (j + 9) = x7 at *
          generalize wth (ext F j) (j + 14) = x2 at *
          have X0 : bits .xor .u32 (bits .xor .u32 ((rotr 7 x15 : Nat) : Int) ((rotr 18 x15 : Nat) : Int)) ((x15 : Int) / 8) = ((sm0 x15 : Nat) : Int) := sm_or l15 7 18 3
          have X1 : bits .xor .u32 (bits .xor .u32 ((rotr 17 x2 : Nat) : Int) ((rotr 19 x2 : Nat) : Int)) ((x2 : Int) / 1024) = ((sm1 x2 : Nat) : Int) := sm_or l2 17 19 10
          have hs1 := Lib.hid (show ∀ w, Calls Tryd.prog 98 #[.int .u32 x15, .int .i64 7] w fun x w' => w = w' ∧ x = .returned (.int .u32 (rotr 7 x15 : Nat)) from fun w => turned x15 7 7 w l15 (by simp [Turn]) rfl)
          have hs2 := Lib.hid (show ∀ w, Calls Tryd.prog 98 #[.int .u32 x15, .int .i64 18] w fun x w' => w = w' ∧ x = .returned (.int .u32 (rotr 18 x15 : Nat)) from fun w => turned x15 18 18 w l15 (by simp [Turn]) rfl)
          have hs3 := Lib.hid (show ∀ w, Calls Tryd.prog 98 #[.int .u32 x2, .int .i64 17] w fun x w' => w = w' ∧ x = .returned (.int .u32 (rotr 17 x2 : Nat)) from fun w => turned x2 17 17 w l2 (by simp [Turn]) rfl)
          have hs4 := Lib.hid (show ∀ w, Calls Tryd.prog 98 #[.int .u32 x2, .int .i64 19] w fun x w' => w = w' ∧ x = .returned (.int .u32 (rotr 19 x2 : Nat)) from fun w => turned x2 19 19 w l2 (by simp [Turn]) rfl)
          have y0 : sm0 x15 < 4294967296 := sm0_lt l15
          have y1 : sm1 x2 < 4294967296 := sm1_lt l2
          generalize sm0 x15 = m0 at *
          generalize sm1 x2 = m1 at *
          generalize rotr 7 x15 = q1 at *
          generalize rotr 18 x15 = q2 at *
          generalize rotr 17 x2 = q3 at *
          generalize rotr 19 x2 = q4 at *
          have NX2 : ((x16 : Int) + (m0 : Int) + (x7 : Int) + (m1 : Int)) % 4294967296 = (nx : Int) := by rw [NW.out]; omega
          obtain ⟨p, hp⟩ : ∃ p, p = 16 + j := ⟨_, rfl⟩
          have hd : decide ((p : Int) < 64) = true := by simp; omega
          have s15 : (p : Int) - 15 = ((j + 1 : Nat) : Int) := by omega
          have s2 : (p : Int) - 2 = ((j + 14 : Nat) : Int) := by omega
          have s7 : (p : Int) - 7 = ((j + 9 : Nat) : Int) := by omega
          have s16 : (p : Int) - 16 = (j : Int) := by omega
          have HP := Lib.hid hp
          rw [← hp] at ck z hset ⊢
          clear hp
          obtain ⟨p1, hp1⟩ : ∃ q, q = j + 1 := ⟨_, rfl⟩
          obtain ⟨p2, hp2⟩ : ∃ q, q = j + 14 := ⟨_, rfl⟩
          obtain ⟨p3, hp3⟩ : ∃ q, q = j + 9 := ⟨_, rfl⟩
          have b1 : (p1 : Int) < 64 := by omega
          have b2 : (p2 : Int) < 64 := by omega
          have b3 : (p3 : Int) < 64 := by omega
          have b4 : (j : Int) < 64 := by omega
          have b5 : (p : Int) < 64 := by have := HP.out; omega
          rw [← hp1] at c15 s15
          rw [← hp2] at c2 s2
          rw [← hp3] at c7 s7
          clear hp1 hp2 hp3
          go_wp2
          go_quiet (fail)
          go_wp2_with fail
          refine ((hs1.out) _).mono ?_; rintro e2 w2 ⟨rfl, rfl⟩
          go_wp2_with fail
          refine ((hs2.out) _).mono ?_; rintro e2 w2 ⟨rfl, rfl⟩
          go_wp2_with fail
          refine ((hs3.out) _).mono ?_; rintro e2 w2 ⟨rfl, rfl⟩
          go_wp2_with fail
          refine ((hs4.out) _).mono ?_; rintro e2 w2 ⟨rfl, rfl⟩
          clear hs1 hs2 hs3 hs4
          go_wp2
          have R4 := Lib.hid ((R3.out).drewN nq)
          have A4 := Lib.hid ((A3.out).drewN nq)
          have B4 := Lib.hid ((B3.out).trans (((Still.refl wr).drewN nq).below A))
          have d16 : (wr.drewN nq).cell? ⟨R, j, none⟩ = some (.int .u32 x16) := c16
          have d7 : (wr.drewN nq).cell? ⟨R, p3, none⟩ = some (.int .u32 x7) := c7
          clear R3 A3 B3 ck z c16 c15 c7 c2
          generalize wr.drewN nq = w4 at *
          have wj : IntKind.i64.wrap (j : Int) = (j : Int) := IntWalk.i64_in _ (by omega)
          have w3 : IntKind.i64.wrap (p3 : Int) = (p3 : Int) := IntWalk.i64_in _ (by omega)
          have m3 : ((((x16 : Int) + m0) % 4294967296 + x7) % 4294967296 + m1) % 4294967296 = (nx : Int) := by rw [NW.out]; omega
          go_still_tail 15, (by kernel_rfl)
          change wpList _ _ _ _ _ w4.drew
          have R4 := Lib.hid ((R4.out).drew)
          have A4 := Lib.hid ((A4.out).drew)
          have B4 := Lib.hid ((B4.out).trans (((Still.refl w4).drewN 1).below A))
          have e1 : w4.drewN 1 = w4.drew := rfl
          rw [e1] at B4
          obtain ⟨v0, hv0⟩ := upTo_any (l := ext F j) (i := p) (by omega)
          clear e1 d16 d7
          generalize w4.drew = w5 at *
          have ck := (R4.out).cell hv0
          have z := (R4.out).frozen p
          have R5 := Lib.hid ((R4.out).set p (.int .u32 nx))
          have A5 := Lib.hid ((A4.out).far ⟨R, p, none⟩ (.int .u32 nx) (by have := HR.out; simp; omega))
          have B5 := Lib.hid ((B4.out).setCell (p := ⟨R, p, none⟩) (by have := HR.out; simp; omega) (.int .u32 nx))
          rw [hset.out] at R5
          clear R4 A4 B4 hv0
          go_wp2
          go_roundw
          case rel => exact ⟨j + 1, by omega, by rw [HP.out]; go_num, R5, A5, B5⟩
          case measure => have := HP.out; simp [intOf]; omega
        · have hj48 : j = 48 := by omega
          subst hj48
          have R4 : Hid (Cel wr R (wv (wds l))) := Lib.hid (by
            have := R3.out
            rw [upTo_full (by rw [EL.out]), ← HF.out] at this
            exact this)
          have WL := Lib.hid (wds_length l)
          clear R3
          generalize hWW : wds l = W at *
          have HWW := Lib.hid hWW
          clear hWW
          have hRA := HR.out
          go_upto_region 14 with fail
          apply wp_region_lit
          refine wpList_load_cel rfl 181 64 arr64 (.tmp 3) rfl R rfl _ (R4.out) (by rw [wv_length]; exact WL.out) ?_
          refine wpList_store_cel rfl 181 64 arr64 (.tmp 2) (.tmp 64) rfl A (wv W) _ rfl rfl (A3.out) (by simp [wv, upTo]) (by rw [wv_length]; exact WL.out) (wv_one _) ?_
          intro w8 c8 g8
          have C8 := Lib.hid c8
          have B8 := Lib.hid ((B3.out).grown g8 (by have := (B3.out).size; have := HA.out; omega) (fun k hk => by cases hk; exact Nat.le_refl _))
          clear c8 g8
          go_wp2
          have hWl : (wv W).length = 64 := by rw [wv_length]; exact WL.out
          refine ret_cel 181 64 arr64 2 ?hr A ?hp (wv W) (C8.out) hWl ?hd ?hR
          case hr => kernel_rfl
          case hp => simp only [Act.put, List.setIfInBounds_toArray, List.set_cons_zero, List.set_cons_succ]; rfl
          case hd => simp only [Act.put]
          case hR =>
            rw [HA.out, HWW.out]
            exact ⟨rfl, B8.out⟩
end Go.Proofs.YtknkmblacaaegaaDoor
