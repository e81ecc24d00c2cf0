/- The document's words of a block. -/
import Derived.Test.YtknkmblacaaegaaDoorShaMsg
import Derived.Test.YtknkmblacaaegaaDoorShaQApp
import Derived.Deep.RegionHeld3
namespace Go.Proofs.YtknkmblacaaegaaDoor
open Go.RowKit
set_option linter.unusedVariables false
set_option linter.unusedSimpArgs false
set_option maxRecDepth 100000

theorem or_four64 {a b c d : Nat} (ha : a < 256) (hb : b < 256) (hc : c < 256) (hd : d < 256) :
    bits .or .u64 (bits .or .u64 (bits .or .u64 ((a : Int) * 16777216) ((b : Int) * 65536)) ((c : Int) * 256)) d = ((a * 16777216 + b * 65536 + c * 256 + d : Nat) : Int) := by
  rw [show ((a : Nat) : Int) * 16777216 = ((a * 16777216 : Nat) : Int) from by omega, show ((b : Nat) : Int) * 65536 = ((b * 65536 : Nat) : Int) from by omega, show ((c : Nat) : Int) * 256 = ((c * 256 : Nat) : Int) from by omega,
    Go.u64_or_nat _ _ (by omega) (by omega), nat_join 24 _ _ (by omega) (by omega), Go.u64_or_nat _ _ (by omega) (by omega), nat_join 16 _ _ (by omega) (by omega), Go.u64_or_nat _ _ (by omega) (by omega), nat_join 8 _ _ (by omega) (by omega)]
theorem sm_or64 {x : Nat} (h : x < 4294967296) (i j k : Nat) : bits .xor .u64 (bits .xor .u64 ((rotr i x : Nat) : Int) ((rotr j x : Nat) : Int)) ((x / 2 ^ k : Nat) : Int) = ((rotr i x ^^^ rotr j x ^^^ x / 2 ^ k : Nat) : Int) := by
  have l0 := rotr_lt (n := i) h
  have l1 := rotr_lt (n := j) h
  have l2 := xor_lt l0 l1
  have l3 : x / 2 ^ k < 4294967296 := Nat.lt_of_le_of_lt (Nat.div_le_self _ _) h
  rw [Go.u64_xor_nat _ _ (by omega) (by omega), Go.u64_xor_nat _ _ (by omega) (by omega)]

set_option maxHeartbeats 4000000 in
theorem refWords (v : Value) (l : List Int) (w : World) (h : Bs w v l) (ho : Oct l) (hl : l.length = 64) :
    Calls Tryd.prog 33 #[v] w fun e w' => ShapedQ 64 (wds l) w e w' := by
  obtain ⟨b, off, cap, hsh, hc1, hcm, hb, cells⟩ := h.at (by omega)
  subst hsh
  rw [hl] at hc1 ⊢
  have HO := Lib.hid ho
  have HL := Lib.hid hl
  have HC := Lib.hid cells
  have HB := Lib.hid hb
  clear h ho hl cells hb
  have O0 : Hid (OwnQ w w.heap.size (.slice none 0 0) ((List.range 0).map (wd l))) := Lib.hid (OwnQ.nil _ _)
  have B0 := Lib.hid (Below.refl w.heap.size w)
  go_enter Tryd.func33, Tryd.ntmps33
  go_wp2
  go_loopw [3, 4] (fun x i wr => ∃ (k : Nat) (a : Option Addr) (c : Nat), k ≤ 16 ∧ x = .slice a k c ∧ i = .int .i64 k ∧ Hid (OwnQ wr w.heap.size (.slice a k c) ((List.range k).map (wd l))) ∧ Hid (Below w.heap.size w wr)) (fun _ i _ => 16 - (intOf i).toNat)
  case atStart => exact ⟨0, none, 0, Nat.zero_le _, rfl, rfl, O0, B0⟩
  case round =>
    clear O0 B0
    obtain ⟨k, a, c, hk, rfl, rfl, O, B⟩ := hrel
    by_cases hlt : k < 16
    · have hd : decide ((k : Int) < 16) = true := by simp; omega
      have key : ∀ j, j < 4 → wr.cell? ⟨b, off + 4 * k + j, none⟩ = some (.int .u8 ((nth l (4 * k + j)).toNat : Nat)) ∧ (nth l (4 * k + j)).toNat < 256 := fun j hj => by
        have hb := (HO.out).nth (j := 4 * k + j) (by have := HL.out; omega)
        refine ⟨?_, by omega⟩
        have := ((B.out).cell (p := ⟨b, off + (4 * k + j), none⟩) HB.out).trans ((HC.out) (4 * k + j) (by have := HL.out; omega))
        rw [← Nat.add_assoc] at this
        rw [this]
        congr 2
        omega
      have HWD : Hid (wd l k = (nth l (4 * k)).toNat * 16777216 + (nth l (4 * k + 1)).toNat * 65536 + (nth l (4 * k + 2)).toNat * 256 + (nth l (4 * k + 3)).toNat) := Lib.hid rfl
      have HR : Hid ((List.range (k + 1)).map (wd l) = (List.range k).map (wd l) ++ [wd l k]) := Lib.hid (by simp [List.range_succ])
      obtain ⟨c0, l0⟩ := key 0 (by decide)
      obtain ⟨c1, l1⟩ := key 1 (by decide)
      obtain ⟨c2, l2⟩ := key 2 (by decide)
      obtain ⟨c3, l3⟩ := key 3 (by decide)
      rw [Nat.add_zero] at c0 l0
      have E := or_four64 l0 l1 l2 l3
      rw [← HWD.out] at E
      obtain ⟨q, hq⟩ : ∃ q, q = 4 * k := ⟨_, rfl⟩
      have e1 : (4 : Int) * (k : Int) = (q : Int) := by omega
      rw [← hq] at E c0 c1 c2 c3 l0 l1 l2 l3
      have ne1 : ¬ cap = q := by omega
      have le1 : (q : Int) + 4 ≤ (cap : Int) := by omega
      clear key HWD hq
      generalize (nth l q).toNat = x0 at *
      generalize (nth l (q + 1)).toNat = x1 at *
      generalize (nth l (q + 2)).toNat = x2 at *
      generalize (nth l (q + 3)).toNat = x3 at *
      have hz : w.heap.size ≤ wr.heap.size := (B.out).size
      generalize wd l k = wk at *
      have L1 := Lib.hid ((ownq_lit wr.drew 0 (Nat.zero_le _) [wk] (by simp)).qs)
      have O1 := Lib.hid (((O.out).drewN 1).alloc (.cells #[.int .u64 wk] 71))
      have B1 := Lib.hid (((B.out).trans (((Still.refl wr).drewN 1).below _)).trans ((alloc_below wr.drew (.cells #[.int .u64 wk] 71)).mono hz))
      have u0 : IntKind.u64.wrap (x0 : Int) = (x0 : Int) := by rw [IntKind.wrap_u64]; omega
      have u1 : IntKind.u64.wrap (x1 : Int) = (x1 : Int) := by rw [IntKind.wrap_u64]; omega
      have u2 : IntKind.u64.wrap (x2 : Int) = (x2 : Int) := by rw [IntKind.wrap_u64]; omega
      have u3 : IntKind.u64.wrap (x3 : Int) = (x3 : Int) := by rw [IntKind.wrap_u64]; omega
      have m0 : IntKind.u64.wrap ((x0 : Int) * 16777216) = (x0 : Int) * 16777216 := by rw [IntKind.wrap_u64]; omega
      have m1 : IntKind.u64.wrap ((x1 : Int) * 65536) = (x1 : Int) * 65536 := by rw [IntKind.wrap_u64]; omega
      have m2 : IntKind.u64.wrap ((x2 : Int) * 256) = (x2 : Int) * 256 := by rw [IntKind.wrap_u64]; omega
      have n4 : q + 4 - q = 4 := by omega
      have hbW := HB.out
      have kp : ∀ (w' w'' : World) (row : Option Nat) (o : Nat) (u : Value), w'.cell? ⟨b, o, none⟩ = some u → w'.grownBy w'' row → (∀ k, row = some k → w.heap.size ≤ k) → w''.cell? ⟨b, o, none⟩ = some u := fun w' w'' row o u h hg hr => hg.cell (a := ⟨b, o, none⟩) h (fun e => by have := hr b e.symm; have := HB.out; omega)
      have KP := Lib.hid kp
      have OL := Lib.hid (O.out).lt
      have hbz : Hid (((List.range k).map (wd l)).length + [wk].length ≤ 1000000) := Lib.hid (by simp; omega)
      have hzz : Hid (w.heap.size ≤ (wr.drew.alloc (.cells #[.int .u64 wk] 71)).heap.size) := Lib.hid (by simp; omega)
      have d0 : (wr.drew.alloc (.cells #[.int .u64 wk] 71)).cell? ⟨b, off + q, none⟩ = some (.int .u8 x0) := cellA (w := wr.drew) c0
      have d1 : (wr.drew.alloc (.cells #[.int .u64 wk] 71)).cell? ⟨b, off + q + 1, none⟩ = some (.int .u8 x1) := cellA (w := wr.drew) c1
      have d2 : (wr.drew.alloc (.cells #[.int .u64 wk] 71)).cell? ⟨b, off + q + 2, none⟩ = some (.int .u8 x2) := cellA (w := wr.drew) c2
      have d3 : (wr.drew.alloc (.cells #[.int .u64 wk] 71)).cell? ⟨b, off + q + 3, none⟩ = some (.int .u8 x3) := cellA (w := wr.drew) c3
      have DD := Lib.hid (And.intro d0 (And.intro d1 (And.intro d2 d3)))
      have DK := Lib.hid (fun w'' (hg : (wr.drew.alloc (.cells #[.int .u64 wk] 71)).grownBy w'' (Value.slice a k c).ownBlock) => And.intro (kp _ w'' _ _ _ d0 hg (fun k hk => ((OL.out) k hk).1)) (And.intro (kp _ w'' _ _ _ d1 hg (fun k hk => ((OL.out) k hk).1)) (And.intro (kp _ w'' _ _ _ d2 hg (fun k hk => ((OL.out) k hk).1)) (kp _ w'' _ _ _ d3 hg (fun k hk => ((OL.out) k hk).1)))))
      clear kp d0 d1 d2 d3
      generalize hF : (List.range k).map (wd l) = F at *
      have HF := Lib.hid hF
      clear hF
      go_upto_region 6 with fail
      go_region_held3 (fun w' => w'.cell? ⟨b, off + q, none⟩ = some (.int .u8 x0) ∧ w'.cell? ⟨b, off + q + 1, none⟩ = some (.int .u8 x1) ∧ w'.cell? ⟨b, off + q + 2, none⟩ = some (.int .u8 x2) ∧ w'.cell? ⟨b, off + q + 3, none⟩ = some (.int .u8 x3)) (first | (with_reducible assumption) | exact ⟨c0, c1, c2, c3⟩ | exact DD.out | exact (DK.out) _ hgx) (first
        | ((refine step_append_q ?hgd (.tmp 22) (.tmp 45) ?ho w.heap.size _ F ?hs (O1.out) _ [wk] ?hx (L1.out) ?hp hbz.out hzz.out ?hk); (case hgd => rfl); (case ho => rfl); (case hs => rfl); (case hx => rfl); (case hp => simp); intro vx wx hox hgx))
      have hFl : F.length = k := by rw [← HF.out]; simp
      obtain ⟨ax, cx, hsx⟩ := hox.qs.shape
      rw [List.length_append, hFl] at hsx
      have hsx2 : vx = .slice ax (k + 1) cx := hsx
      subst hsx2
      rw [← HR.out] at hox
      have O5 := Lib.hid hox
      have B5 := Lib.hid ((B1.out).grown hgx hzz.out (fun k hk => ((OL.out) k hk).1))
      clear hox hgx hsx hFl
      go_wp2
      go_roundw
      case rel => exact ⟨k + 1, ax, cx, by omega, rfl, by go_num, O5, B5⟩
      case measure => (simp [intOf]; try omega)
    · have hd : decide ((k : Int) < 16) = false := by simp; omega
      obtain rfl : k = 16 := by omega
      have FW := Lib.hid (first_wrd (HO.out) 16)
      have FL : Hid (((List.range 16).map (wd l)).length = 16) := Lib.hid (by simp)
      have HF : Hid (wds l = ext ((List.range 16).map (wd l)) 48) := Lib.hid rfl
      have O : Hid (OwnQ wr w.heap.size (.slice a 16 c) (ext ((List.range 16).map (wd l)) 0)) := O
      generalize (List.range 16).map (wd l) = F at *
      clear hd
      go_wp2
      rw [show ((16 : Nat) : Int) = 16 from rfl]
      go_loopw [3, 6] (fun x i wr => ∃ (j p : Nat) (a : Option Addr) (c : Nat), j ≤ 48 ∧ Hid (p = 16 + j) ∧ x = .slice a p c ∧ i = .int .i64 (p : Nat) ∧ Hid (OwnQ wr w.heap.size (.slice a p c) (ext F j)) ∧ Hid (Below w.heap.size w wr)) (fun _ i _ => 64 - (intOf i).toNat)
      case atStart => exact ⟨0, 16, a, c, Nat.zero_le _, Lib.hid rfl, rfl, rfl, O, B⟩
      case round =>
        clear O B
        obtain ⟨j, p, a, c, hj, HP, rfl, rfl, O, B⟩ := hrel
        have hel : (ext F j).length = p := by rw [ext_length, FL.out, HP.out]
        have EL := Lib.hid hel
        by_cases hlt : j < 48
        · have NX : Hid (ext F (j + 1) = ext F j ++ [nextW (ext F j)]) := Lib.hid rfl
          have NW : Hid (nextW (ext F j) = (wth (ext F j) j + sm0 (wth (ext F j) (j + 1)) + wth (ext F j) (j + 9) + sm1 (wth (ext F j) (j + 14))) % 4294967296) := Lib.hid (by
            unfold nextW
            rw [hel, HP.out, show 16 + j - 16 = j from by omega, show 16 + j - 15 = j + 1 from by omega, show 16 + j - 7 = j + 9 from by omega, show 16 + j - 2 = j + 14 from by omega])
          obtain ⟨g, c', hsh, hgR, -, -, cells⟩ := (O.out).pos (by rw [hel, HP.out]; omega)
          rw [hel] at hsh
          injection hsh with hao _ hcc
          subst hao hcc
          have c16 := cells j (by rw [hel, HP.out]; omega)
          have c15 := cells (j + 1) (by rw [hel, HP.out]; omega)
          have c7 := cells (j + 9) (by rw [hel, HP.out]; omega)
          have c2 := cells (j + 14) (by rw [hel, HP.out]; omega)
          have l16 := (ext_wrd FW.out j).wth j
          have l15 := (ext_wrd FW.out j).wth (j + 1)
          have l7 := (ext_wrd FW.out j).wth (j + 9)
          have l2 := (ext_wrd FW.out j).wth (j + 14)
          have KC := Lib.hid (fun (w0 : World) (h0 : OwnQ w0 w.heap.size (.slice (some ⟨g, 0, none⟩) p c) (ext F j)) (v' : Value) (w' : World) (ys : List Nat) (ho' : OwnQ w' w.heap.size v' (ext F j ++ ys)) (m : Nat) (hg : Grew w0 (.slice (some ⟨g, 0, none⟩) p c) m v' w') =>
            (show w'.cell? ⟨g, j, none⟩ = some (.int .u64 (wth (ext F j) j : Nat)) ∧ w'.cell? ⟨g, j + 9, none⟩ = some (.int .u64 (wth (ext F j) (j + 9) : Nat)) by
              obtain ⟨g2, c2, hv, hc⟩ := h0.behind ho' hg (by rw [hel, HP.out]; omega)
              injection hv with e _ _
              injection e with e
              injection e with e _ _
              subst e
              exact ⟨hc j (by rw [hel, HP.out]; omega), hc (j + 9) (by rw [hel, HP.out]; omega)⟩))
          clear cells hel
          generalize nextW (ext F j) = nx at *
          generalize hE : ext F j = E at *
          generalize wth E j = x16 at *
          generalize wth E (j + 1) = x15 at *
          generalize wth E (j + 9) = x7 at *
          generalize wth E (j + 14) = x2 at *
          have HE := Lib.hid hE
          clear hE
          have X0 : bits .xor .u64 (bits .xor .u64 ((rotr 7 x15 : Nat) : Int) ((rotr 18 x15 : Nat) : Int)) ((x15 / 8 : Nat) : Int) = ((sm0 x15 : Nat) : Int) := sm_or64 l15 7 18 3
          have X1 : bits .xor .u64 (bits .xor .u64 ((rotr 17 x2 : Nat) : Int) ((rotr 19 x2 : Nat) : Int)) ((x2 / 1024 : Nat) : Int) = ((sm1 x2 : Nat) : Int) := sm_or64 l2 17 19 10
          have hs1 := Lib.hid (show ∀ w, Calls Tryd.prog 34 #[.int .u64 x15, .int .u64 7] w fun x w' => w = w' ∧ x = .returned (.int .u64 (rotr 7 x15 : Nat)) from fun w => refTurned x15 7 7 w l15 (by simp [Turn]) rfl)
          have hs2 := Lib.hid (show ∀ w, Calls Tryd.prog 34 #[.int .u64 x15, .int .u64 18] w fun x w' => w = w' ∧ x = .returned (.int .u64 (rotr 18 x15 : Nat)) from fun w => refTurned x15 18 18 w l15 (by simp [Turn]) rfl)
          have hs3 := Lib.hid (show ∀ w, Calls Tryd.prog 34 #[.int .u64 x2, .int .u64 17] w fun x w' => w = w' ∧ x = .returned (.int .u64 (rotr 17 x2 : Nat)) from fun w => refTurned x2 17 17 w l2 (by simp [Turn]) rfl)
          have hs4 := Lib.hid (show ∀ w, Calls Tryd.prog 34 #[.int .u64 x2, .int .u64 19] w fun x w' => w = w' ∧ x = .returned (.int .u64 (rotr 19 x2 : Nat)) from fun w => refTurned x2 19 19 w l2 (by simp [Turn]) rfl)
          have hm1 := Lib.hid (show ∀ w, Calls Tryd.prog 63 #[.int .u64 x15, .int .u64 3] w fun x w' => w = w' ∧ x = .returned (.int .u64 (x15 / 8 : Nat)) from fun w => refMoved x15 3 w l15 (Or.inl rfl))
          have hm2 := Lib.hid (show ∀ w, Calls Tryd.prog 63 #[.int .u64 x2, .int .u64 10] w fun x w' => w = w' ∧ x = .returned (.int .u64 (x2 / 1024 : Nat)) from fun w => refMoved x2 10 w l2 (Or.inr rfl))
          have y0 : sm0 x15 < 4294967296 := sm0_lt l15
          have y1 : sm1 x2 < 4294967296 := sm1_lt l2
          generalize sm0 x15 = m0 at *
          generalize sm1 x2 = m1 at *
          generalize rotr 7 x15 = q1 at *
          generalize rotr 18 x15 = q2 at *
          generalize rotr 17 x2 = q3 at *
          generalize rotr 19 x2 = q4 at *
          generalize x15 / 8 = d1 at *
          generalize x2 / 1024 = d2 at *
          obtain ⟨s1, hs1'⟩ : ∃ s1, s1 = x16 + m0 := ⟨_, rfl⟩
          obtain ⟨s2, hs2'⟩ : ∃ s2, s2 = s1 + x7 := ⟨_, rfl⟩
          obtain ⟨s3, hs3'⟩ : ∃ s3, s3 = s2 + m1 := ⟨_, rfl⟩
          have t1 : IntKind.u64.wrap ((x16 : Int) + (m0 : Int)) = (s1 : Int) := by rw [IntKind.wrap_u64]; omega
          have t2 : IntKind.u64.wrap ((s1 : Int) + (x7 : Int)) = (s2 : Int) := by rw [IntKind.wrap_u64]; omega
          have t3 : IntKind.u64.wrap ((s2 : Int) + (m1 : Int)) = (s3 : Int) := by rw [IntKind.wrap_u64]; omega
          have t4 : bits .and .u64 (s3 : Int) 4294967295 = (nx : Int) := by
            rw [mask32 (by omega), NW.out, hs3', hs2', hs1']
          clear hs1' hs2' hs3'
          have hp := HP.out
          have hd : decide ((p : Int) < 64) = true := by simp; omega
          have f15 : (p : Int) - 15 = ((j + 1 : Nat) : Int) := by omega
          have f2 : (p : Int) - 2 = ((j + 14 : Nat) : Int) := by omega
          have f7 : (p : Int) - 7 = ((j + 9 : Nat) : Int) := by omega
          have f16 : (p : Int) - 16 = (j : Int) := by omega
          obtain ⟨p1, hp1⟩ : ∃ q, q = j + 1 := ⟨_, rfl⟩
          obtain ⟨p2, hp2⟩ : ∃ q, q = j + 14 := ⟨_, rfl⟩
          obtain ⟨p3, hp3⟩ : ∃ q, q = j + 9 := ⟨_, rfl⟩
          have b1 : (p1 : Int) < (p : Int) := by omega
          have b2 : (p2 : Int) < (p : Int) := by omega
          have b3 : (p3 : Int) < (p : Int) := by omega
          have b4 : (j : Int) < (p : Int) := by omega
          have wj : IntKind.i64.wrap (j : Int) = (j : Int) := IntWalk.i64_in _ (by omega)
          have w3 : IntKind.i64.wrap (p3 : Int) = (p3 : Int) := IntWalk.i64_in _ (by omega)
          rw [← hp1] at c15 f15
          rw [← hp2] at c2 f2
          rw [← hp3] at c7 f7 KC
          clear hp1 hp2 hp3 hp
          go_wp2
          go_quiet (fail)
          go_wp2_with fail
          refine ((hs1.out) _).mono ?_; rintro e2 w2 ⟨rfl, rfl⟩
          go_wp2_with fail
          refine ((hs2.out) _).mono ?_; rintro e2 w2 ⟨rfl, rfl⟩
          go_wp2_with fail
          refine ((hm1.out) _).mono ?_; rintro e2 w2 ⟨rfl, rfl⟩
          go_wp2_with fail
          refine ((hs3.out) _).mono ?_; rintro e2 w2 ⟨rfl, rfl⟩
          go_wp2_with fail
          refine ((hs4.out) _).mono ?_; rintro e2 w2 ⟨rfl, rfl⟩
          go_wp2_with fail
          refine ((hm2.out) _).mono ?_; rintro e2 w2 ⟨rfl, rfl⟩
          clear hs1 hs2 hs3 hs4 hm1 hm2
          go_upto_region 13 with fail
          clear X0 X1
          have hz : w.heap.size ≤ wr.heap.size := (B.out).size
          have O4 := Lib.hid ((O.out).drewN nq)
          have B4 := Lib.hid ((B.out).trans (((Still.refl wr).drewN nq).below _))
          have d16 : (wr.drewN nq).cell? ⟨g, j, none⟩ = some (.int .u64 x16) := c16
          have d7 : (wr.drewN nq).cell? ⟨g, p3, none⟩ = some (.int .u64 x7) := c7
          have hz4 : w.heap.size ≤ (wr.drewN nq).heap.size := hz
          clear O B c16 c15 c7 c2
          generalize wr.drewN nq = w4 at *
          have O5 : OwnQ (w4.alloc (.cells #[.int .u64 nx] 71)).drew w.heap.size (.slice (some ⟨g, 0, none⟩) p c) E := ((O4.out).alloc (.cells #[.int .u64 nx] 71)).drewN 1
          have L5 : Qs (w4.alloc (.cells #[.int .u64 nx] 71)).drew (.slice (some ⟨w4.heap.size, 0, none⟩) 1 1) [nx] := (ownq_lit w4 0 (Nat.zero_le _) [nx] (by simp)).qs.drewN 1
          have B5 : Below w.heap.size w (w4.alloc (.cells #[.int .u64 nx] 71)).drew := ((B4.out).trans ((alloc_below w4 (.cells #[.int .u64 nx] 71)).mono hz4)).trans (((Still.refl _).drewN 1).below _)
          have e16 : (w4.alloc (.cells #[.int .u64 nx] 71)).drew.cell? ⟨g, j, none⟩ = some (.int .u64 x16) := cellA (w := w4) d16
          have e7 : (w4.alloc (.cells #[.int .u64 nx] 71)).drew.cell? ⟨g, p3, none⟩ = some (.int .u64 x7) := cellA (w := w4) d7
          have DD := Lib.hid (And.intro e16 e7)
          have D0 : Hid (w4.drew.cell? ⟨g, j, none⟩ = some (.int .u64 x16) ∧ w4.drew.cell? ⟨g, p3, none⟩ = some (.int .u64 x7)) := Lib.hid ⟨d16, d7⟩
          have hbz : Hid (E.length + [nx].length ≤ 1000000) := Lib.hid (by rw [EL.out]; simp; have := HP.out; omega)
          have hzz : Hid (w.heap.size ≤ (w4.alloc (.cells #[.int .u64 nx] 71)).drew.heap.size) := Lib.hid (by simp; omega)
          have O5 := Lib.hid O5
          have L5 := Lib.hid L5
          have B5 := Lib.hid B5
          clear e16 e7 HF NW HC HO HL FW FL
          go_region_held3 (fun w' => w'.cell? ⟨g, j, none⟩ = some (.int .u64 x16) ∧ w'.cell? ⟨g, p3, none⟩ = some (.int .u64 x7)) (first | (with_reducible assumption) | (with_reducible exact D0.out) | (with_reducible exact DD.out) | (with_reducible exact (KC.out) _ (O5.out) _ _ _ hox _ hgx)) (first
            | ((with_reducible refine step_append_q2 ?hgd2 (.tmp 77) (.tmp 94) ?ho2 w.heap.size _ E ?hs2 (O5.out) _ [nx] ?hx2 (L5.out) ?hp2 hbz.out hzz.out ?hk2); (case hgd2 => rfl); (case ho2 => rfl); (case hs2 => rfl); (case hx2 => rfl); (case hp2 => simp); intro vx wx hox hgx))
          obtain ⟨ax, cx, hsx⟩ := hox.qs.shape
          rw [List.length_append, EL.out] at hsx
          have hsx2 : vx = .slice ax (p + 1) cx := hsx
          subst hsx2
          rw [← NX.out] at hox
          have O6 := Lib.hid hox
          have B6 := Lib.hid ((B5.out).grown hgx.grown hzz.out (fun k hk => ((O5.out).lt k hk).1))
          clear hox hgx hsx
          go_wp2
          go_roundw
          case rel => exact ⟨j + 1, p + 1, ax, cx, by omega, Lib.hid (by have := HP.out; omega), rfl, by go_num, O6, B6⟩
          case measure => (simp [intOf]; try omega)
        · obtain rfl : j = 48 := by omega
          have hp := HP.out
          obtain rfl : p = 64 := by omega
          rw [← HF.out] at O
          have hd : decide (((64 : Nat) : Int) < 64) = false := by decide
          go_wp2
          go_ret
          exact ⟨_, _, rfl, O.out, B.out⟩
end Go.Proofs.YtknkmblacaaegaaDoor
