/- The document's tags. -/
import Derived.Test.YtknkmblacaaegaaDoorMacMath
import Derived.Test.YtknkmblacaaegaaDoorShaRefKit
import Derived.Deep.DeepCutAuto
namespace Go.Proofs.YtknkmblacaaegaaDoor
open Go.RowKit
set_option linter.unusedVariables false
set_option linter.unusedSimpArgs false
set_option maxRecDepth 100000

/-- The first k bytes are made. -/
def madeTo (n : Int) (kb : List Int) (k : Nat) : List Int := under n (kb.take k) ++ List.replicate (64 - k) 0
theorem madeTo_length {n : Int} {kb : List Int} {k : Nat} (h : kb.length = 64) (hk : k ≤ 64) : (madeTo n kb k).length = 64 := by simp [madeTo, under_length]; omega
theorem madeTo_zero (n : Int) (kb : List Int) : madeTo n kb 0 = List.replicate 64 0 := by simp [madeTo, under]
theorem madeTo_all {n : Int} {kb : List Int} (h : kb.length = 64) : madeTo n kb 64 = under n kb := by
  unfold madeTo; rw [List.take_of_length_le (by omega)]; simp
theorem madeTo_nth {n : Int} {kb : List Int} {k : Nat} (h : kb.length = 64) (hk : k < 64) : nth (madeTo n kb k) k = 0 := by
  have hl : (under n (kb.take k)).length = k := by rw [under_length, List.length_take]; omega
  unfold madeTo
  rw [nth_append_right (by omega), hl, Nat.sub_self, nth_of (by simp; omega)]
  simp
theorem madeTo_set {n : Int} {kb : List Int} {k : Nat} (h : kb.length = 64) (hk : k < 64) : (madeTo n kb k).set k (bits .xor .u8 (nth kb k) n) = madeTo n kb (k + 1) := by
  have hl : (under n (kb.take k)).length = k := by rw [under_length, List.length_take]; omega
  unfold madeTo
  obtain ⟨m, hm⟩ : ∃ m, 64 - k = m + 1 := ⟨63 - k, by omega⟩
  rw [List.set_append_right _ _ (by omega), hl, Nat.sub_self, hm, List.replicate_succ, List.set_cons_zero, List.take_succ_eq_append_getElem (by omega), nth_of (by omega), show 64 - (k + 1) = m from by omega]
  simp only [List.map_append, List.map_cons, List.map_nil, under, List.append_assoc, List.singleton_append]
theorem kblock_in {l : List Int} {k : Nat} (h : k < (short l).length) : nth (kblock l) k = nth (short l) k := nth_append_left h
theorem kblock_out {l : List Int} {k : Nat} (h : (short l).length ≤ k) (hk : k < 64) : nth (kblock l) k = 0 := by
  unfold kblock
  rw [nth_append_right h, nth_of (by simp; omega)]
  simp

set_option maxHeartbeats 4000000 in
theorem refUnder (v : Value) (l : List Int) (n : Int) (w : World) (h : Bs w v l) (ho : Oct l) (hl : l.length ≤ 50000) :
    Calls Tryd.prog 22 #[v, .int .u8 n] w fun e w' => Shaped 64 (under n (kblock l)) w e w' := by
  obtain ⟨ao, cap, hsh⟩ := h.shape
  subst hsh
  have hlen := h.len
  obtain ⟨kb, hkb⟩ : ∃ kb, kb = kblock l := ⟨_, rfl⟩
  rw [← hkb]
  have HKL : Hid (kb.length = 64) := Lib.hid (by rw [hkb]; exact kblock_length l)
  have HKB := Lib.hid hkb
  have H := Lib.hid h
  have HO := Lib.hid ho
  have HLE := Lib.hid hl
  clear h ho hl hkb
  generalize hn : l.length = m at *
  have HN := Lib.hid hn
  clear hn
  go_enter Tryd.func22, Tryd.ntmps22
  go_upto_if 11 with fail
  go_cut [5] (fun v0 wx => ∃ (a : Option Addr) (q c : Nat), v0 = .slice a q c ∧ Hid (q = (short l).length) ∧ Hid (Bs wx (.slice a q c) (short l)) ∧ Hid (Below w.heap.size w wx))
  case first =>
    by_cases hlt : 64 < m
    · have hd : decide ((64 : Int) < (m : Int)) = true := by simp; omega
      have hsh : short l = digest l := by unfold short; rw [if_pos (by rw [HN.out]; exact hlt)]
      have SM := Lib.hid (refSha32 (.slice ao m cap) l w H.out HO.out (by have := HN.out; have := HLE.out; omega))
      have HSH := Lib.hid hsh
      clear hsh
      go_wp2_with fail
      refine (SM.out).mono ?_; rintro e w2 ⟨a2, c2, rfl, ho2, hb2⟩
      have S2 := Lib.hid ho2.bs
      have B2 := Lib.hid hb2
      clear ho2 hb2 SM
      go_wp2_with fail
      go_meet
      exact ⟨a2, 32, c2, rfl, Lib.hid (by rw [HSH.out, digest_length]), Lib.hid (by rw [HSH.out]; exact S2.out), B2⟩
    · have hd : decide ((64 : Int) < (m : Int)) = false := by simp; omega
      have hsh : short l = l := by unfold short; rw [if_neg (by rw [HN.out]; exact hlt)]
      have HSH := Lib.hid hsh
      clear hsh
      go_wp2_with fail
      go_meet
      exact ⟨ao, m, cap, rfl, Lib.hid (by rw [HSH.out, HN.out]), Lib.hid (by rw [HSH.out]; exact H.out), Lib.hid (Below.refl _ _)⟩
  case rest =>
    obtain ⟨a, q, c, rfl, HQ, HS, B1⟩ := hcut
    have hq64 : q ≤ 64 := by have := HQ.out; have := short_le l; omega
    obtain ⟨i5, hi5, hz5, hs5, hb5⟩ := u8info
    go_wp2_with (at_make; refine wpList_make_full _ rfl _ _ 22 rfl wc.heap.size 5 i5 (.int .u8 0) 1 Tryd.underlying22 hi5 hz5 hs5 _ _ _ _ 64 rfl rfl rfl rfl (by rw [hb5]; decide) (by unfold maxLen; omega) (Nat.le_refl _) ?_)
    intro w1 ho1 hg1
    clear hi5 hz5 hs5 hb5
    rw [toList_madeCells_one] at ho1
    obtain ⟨g, hg⟩ : ∃ g, g = wc.heap.size := ⟨_, rfl⟩
    have O1 : Own w1 w.heap.size (.slice (some ⟨wc.heap.size, 0, none⟩) 64 64) (madeTo n kb 0) := by
      rw [madeTo_zero]
      have : Own w1 wc.heap.size (.slice (some ⟨wc.heap.size, 0, none⟩) 64 64) (List.replicate 64 0) := by
        unfold Own
        simpa [bv] using ho1
      exact this.mono (B1.out).size
    have O1 := Lib.hid O1
    have S1 : Hid (Bs w1 (.slice a q c) (short l)) := Lib.hid ((HS.out).past (Below.grown (Below.refl _ _) hg1 (Nat.le_refl _) (fun k e => by cases e)))
    have hsz : wc.heap.size ≤ w1.heap.size := hg1.size
    have B2 := Lib.hid ((B1.out).grown hg1 (B1.out).size (fun k e => by cases e))
    have U1 := Lib.hid ((HS.out).under)
    rw [← hg] at O1 U1 ⊢
    have hwg : w.heap.size ≤ g := by rw [hg]; exact (B1.out).size
    have HWG := Lib.hid hwg
    clear ho1 hg1 hsz hg hwg HS B1
    have HQ64 := Lib.hid hq64
    go_wp2_with fail
    go_loopw [7] (fun i wr => ∃ k : Nat, k ≤ 64 ∧ i = .int .i64 k ∧ Hid (Own wr w.heap.size (.slice (some ⟨g, 0, none⟩) 64 64) (madeTo n kb k)) ∧ Hid (Bs wr (.slice a q c) (short l)) ∧ Hid (Below w.heap.size w wr)) (fun i _ => 64 - (intOf i).toNat)
    case atStart => exact ⟨0, Nat.zero_le _, rfl, O1, S1, B2⟩
    case round =>
      clear O1 S1 B2
      obtain ⟨k, hk, rfl, O, S, B⟩ := hrel
      by_cases hlt : k < 64
      · have hd : decide ((k : Int) < 64) = true := by simp; omega
        obtain ⟨cg, fg⟩ := own_cells O.out
        have cgk := cg k hlt
        have fgk := fg k
        have fin : ∀ x : Int, x = nth kb k → Own ((wr.setCell ⟨g, k, none⟩ (.int .u8 x)).setCell ⟨g, k, none⟩ (.int .u8 (bits .xor .u8 x n))) w.heap.size (.slice (some ⟨g, 0, none⟩) 64 64) (madeTo n kb (k + 1)) := fun x hx => by
          have := ((O.out).stored k x).stored k (bits .xor .u8 x n)
          rw [List.set_set, hx, madeTo_set HKL.out hlt] at this
          rw [hx]
          exact this
        have bel : ∀ x y : Value, Below g wr ((wr.setCell ⟨g, k, none⟩ x).setCell ⟨g, k, none⟩ y) := fun x y => ((Below.refl g wr).setCell (p := ⟨g, k, none⟩) (Nat.le_refl _) x).setCell (p := ⟨g, k, none⟩) (Nat.le_refl _) y
        by_cases hkq : k < q
        · have hd2 : decide (k < q) = true := by simpa using hkq
          obtain ⟨b, off, c', hsh, -, -, hbl, cells⟩ := (S.out).at (by rw [← HQ.out]; omega)
          injection hsh with ha _ hc
          subst ha hc
          have cs := cells k (by rw [← HQ.out]; exact hkq)
          have hx : nth (short l) k = nth kb k := by rw [HKB.out, kblock_in (by rw [← HQ.out]; exact hkq)]
          have O3 := Lib.hid (fin _ hx)
          have hne : b ≠ g := by
            have := U1.out _ _ _ rfl (show 0 < q by omega)
            simp at this
            omega
          have S3 := Lib.hid ((S.out).below U1.out (bel (.int .u8 (nth (short l) k)) (.int .u8 (bits .xor .u8 (nth (short l) k) n))))
          have B3 := Lib.hid ((B.out).trans ((bel (.int .u8 (nth (short l) k)) (.int .u8 (bits .xor .u8 (nth (short l) k) n))).mono HWG.out))
          clear cells hx fin bel cg fg O S B hbl
          generalize nth (short l) k = x at *
          go_wp2
          go_roundw
          case rel => exact ⟨k + 1, by omega, by go_num, O3, S3, B3⟩
          case measure => simp [intOf]; omega
        · have hd2 : decide (k < q) = false := by simpa using hkq
          have hz := madeTo_nth (n := n) HKL.out hlt
          rw [hz] at cgk
          have hx : nth kb k = 0 := by rw [HKB.out, kblock_out (by rw [← HQ.out]; omega) hlt]
          have O3 := Lib.hid (show Own (wr.setCell ⟨g, k, none⟩ (.int .u8 (bits .xor .u8 0 n))) w.heap.size (.slice (some ⟨g, 0, none⟩) 64 64) (madeTo n kb (k + 1)) from by
            have := (O.out).stored k (bits .xor .u8 0 n)
            rw [show bits .xor .u8 0 n = bits .xor .u8 (nth kb k) n from by rw [hx], madeTo_set HKL.out hlt] at this
            rw [hx] at this
            exact this)
          have b1 : Below g wr (wr.setCell ⟨g, k, none⟩ (.int .u8 (bits .xor .u8 0 n))) := (Below.refl g wr).setCell (p := ⟨g, k, none⟩) (Nat.le_refl _) _
          have S3 := Lib.hid ((S.out).below U1.out b1)
          have B3 := Lib.hid ((B.out).trans (b1.mono HWG.out))
          clear hx hz b1 fin bel cg fg O S B
          go_wp2
          go_roundw
          case rel => exact ⟨k + 1, by omega, by go_num, O3, S3, B3⟩
          case measure => simp [intOf]; omega
      · have hd : decide ((k : Int) < 64) = false := by simp; omega
        obtain rfl : k = 64 := by omega
        go_wp2
        go_ret
        have O4 := O.out
        rw [madeTo_all HKL.out] at O4
        exact ⟨_, _, rfl, O4, B.out⟩

set_option maxHeartbeats 4000000 in
theorem refTag (v1 v2 : Value) (k b : List Int) (w : World) (h1 : Bs w v1 k) (h2 : Bs w v2 b) (o1 : Oct k) (o2 : Oct b) (l1 : k.length ≤ 49000) (l2 : b.length ≤ 49000) :
    Calls Tryd.prog 10 #[v1, v2] w fun e w' => Shaped 32 (mac k b) w e w' := by
  obtain ⟨a1, c1, hs1⟩ := h1.shape
  obtain ⟨a2, c2, hs2⟩ := h2.shape
  subst hs1 hs2
  have UN := Lib.hid (fun n w' (hb : Below w.heap.size w w') => refUnder _ k n w' (h1.past hb) o1 (by omega))
  obtain ⟨I, hI⟩ : ∃ I, I = digest (under 54 (kblock k) ++ b) := ⟨_, rfl⟩
  obtain ⟨D, hD⟩ : ∃ D, D = mac k b := ⟨_, rfl⟩
  have hD2 : digest (under 92 (kblock k) ++ I) = D := by rw [hD, hI]; rfl
  rw [← hD]
  obtain ⟨X, hX⟩ : ∃ X, X = under 54 (kblock k) := ⟨_, rfl⟩
  obtain ⟨Y, hY⟩ : ∃ Y, Y = under 92 (kblock k) := ⟨_, rfl⟩
  have HDL : Hid (D.length = 32) := Lib.hid (by rw [← hD2]; exact digest_length _)
  have HIL : Hid (I.length = 32) := Lib.hid (by rw [hI]; exact digest_length _)
  have HIO : Hid (Oct I) := Lib.hid (by rw [hI]; exact digest_oct _)
  have OX : Hid (Oct X) := Lib.hid (by rw [hX]; exact under_oct (kblock_oct o1) (by decide))
  have OY : Hid (Oct Y) := Lib.hid (by rw [hY]; exact under_oct (kblock_oct o1) (by decide))
  have LX : Hid (X.length = 64) := Lib.hid (by rw [hX, under_length, kblock_length])
  have LY : Hid (Y.length = 64) := Lib.hid (by rw [hY, under_length, kblock_length])
  have U1 := Lib.hid ((UN.out) 54 w (Below.refl _ _))
  have U2 := Lib.hid (fun w' hb => (UN.out) 92 w' hb)
  rw [← hX] at U1 hI
  rw [← hY] at U2 hD2
  have HI := Lib.hid hI.symm
  have HD := Lib.hid hD2
  have H2 := Lib.hid h2
  have HO2 := Lib.hid o2
  have HL2 := Lib.hid l2
  clear UN hX hY hI hD hD2 h1 h2 o1 o2 l1 l2
  generalize k.length = n1 at *
  generalize hn2 : b.length = n2 at *
  have HN2 := Lib.hid hn2
  clear hn2
  go_enter Tryd.func10, Tryd.ntmps10
  go_wp2_with fail
  with_reducible refine (U1.out).mono ?_
  rintro e w1 ⟨ax, cx, rfl, ho1, bl1⟩
  have B1 := Lib.hid bl1
  have O1 := Lib.hid ho1
  have V1 := Lib.hid ((H2.out).past bl1)
  have hz1 := bl1.size
  clear ho1 bl1 U1
  go_wp2_with (at_builtin; refine wpList_append_bs _ rfl _ _ rfl w.heap.size _ X rfl O1.out _ b rfl V1.out (by have := LX.out; have := HN2.out; have := HL2.out; omega) hz1 ?_)
  intro v2 w2 ho2 hg2
  have B2 := Lib.hid ((B1.out).grown hg2 (B1.out).size (fun k hk => ((O1.out).lt k hk).1))
  obtain ⟨a2', c2', hs2⟩ := ho2.bs.shape
  rw [List.length_append, LX.out, HN2.out] at hs2
  obtain ⟨m, hm⟩ : ∃ m, m = 64 + n2 := ⟨_, rfl⟩
  rw [← hm] at hs2
  subst hs2
  have S1 := Lib.hid (refSha32 _ (X ++ b) w2 ho2.bs ((OX.out).append HO2.out) (by rw [List.length_append, LX.out, HN2.out]; have := HL2.out; omega))
  rw [HI.out] at S1
  have HM := Lib.hid hm
  clear ho2 hg2 hm O1 V1 B1 hz1
  go_wp2_with fail
  with_reducible refine (S1.out).mono ?_
  rintro e w3 ⟨a3, c3, rfl, ho3, bl3⟩
  have B3 := Lib.hid (bel_past B2.out bl3)
  have V3 := Lib.hid ho3.bs
  have U3 := Lib.hid ((U2.out) w3 B3.out)
  clear ho3 bl3 S1 B2 U2
  go_wp2_with fail
  with_reducible refine (U3.out).mono ?_
  rintro e w4 ⟨a4, c4, rfl, ho4, bl4⟩
  have B4 := Lib.hid (bel_past B3.out bl4)
  have V4 := Lib.hid ((V3.out).past bl4)
  have O4 := Lib.hid ho4
  have hz4 := bl4.size
  have hz3 : w.heap.size ≤ w3.heap.size := (B3.out).size
  clear ho4 bl4 U3 B3 V3
  go_wp2_with (at_builtin; refine wpList_append_bs _ rfl _ _ rfl w3.heap.size _ Y rfl O4.out _ I rfl V4.out (by have := LY.out; have := HIL.out; omega) hz4 ?_)
  intro v5 w5 ho5 hg5
  have B5 := Lib.hid ((B4.out).grown hg5 (B4.out).size (fun k hk => Nat.le_trans hz3 ((O4.out).lt k hk).1))
  obtain ⟨a5', c5', hs5⟩ := ho5.bs.shape
  rw [List.length_append, LY.out, HIL.out] at hs5
  obtain ⟨m5, hm5⟩ : ∃ m5, m5 = 64 + 32 := ⟨_, rfl⟩
  rw [← hm5] at hs5
  subst hs5
  have S5 := Lib.hid (refSha32 _ (Y ++ I) w5 ho5.bs ((OY.out).append HIO.out) (by rw [List.length_append, LY.out, HIL.out]; decide))
  rw [HD.out] at S5
  clear ho5 hg5 hm5 O4 V4 B4 hz4 hz3
  go_wp2_with fail
  with_reducible refine (S5.out).mono ?_
  rintro e w6 ⟨a6, c6, rfl, ho6, bl6⟩
  have B6 := Lib.hid (bel_past B5.out bl6)
  have O6 := Lib.hid (ho6.mono (B5.out).size)
  clear ho6 bl6 S5
  go_wp2_with fail
  go_ret
  exact ⟨a6, c6, rfl, O6.out, B6.out⟩

theorem refFits (v1 v2 v3 : Value) (k b tag : List Int) (w : World) (h1 : Bs w v1 k) (h2 : Bs w v2 b) (h3 : Bs w v3 tag) (o1 : Oct k) (o2 : Oct b) (l1 : k.length ≤ 49000) (l2 : b.length ≤ 49000) :
    Calls Tryd.prog 12 #[v1, v2, v3] w (Gives (.bool (decide (tag = mac k b))) w) := by
  obtain ⟨a1, c1, hs1⟩ := h1.shape
  obtain ⟨a2, c2, hs2⟩ := h2.shape
  obtain ⟨a3, c3, hs3⟩ := h3.shape
  subst hs1 hs2 hs3
  have RT := Lib.hid (refTag _ _ k b w h1 h2 o1 o2 l1 l2)
  have H3 := Lib.hid h3
  obtain ⟨D, hD⟩ : ∃ D, D = mac k b := ⟨_, rfl⟩
  rw [← hD] at RT ⊢
  clear h1 h2 h3 o1 o2 l1 l2 hD
  generalize k.length = n1 at *
  generalize b.length = n2 at *
  generalize tag.length = n3 at *
  go_enter Tryd.func12, Tryd.ntmps12
  go_wp2_with fail
  with_reducible refine (RT.out).mono ?_
  rintro e w1 ⟨a1', c1', rfl, ho1, bl1⟩
  have B1 := Lib.hid bl1
  have SB := Lib.hid (sameBytes _ _ D tag w1 ho1.bs ((H3.out).past bl1))
  clear ho1 bl1 RT
  go_wp2_with fail
  with_reducible refine (SB.out).mono ?_
  rintro e w2 ⟨rfl, st2⟩
  have B2 := Lib.hid ((B1.out).trans (st2.below _))
  have e1 : decide (D = tag) = decide (tag = D) := by rw [decide_eq_decide]; exact eq_comm
  rw [e1]
  clear st2 SB e1
  go_wp2_with fail
  go_ret
  exact ⟨rfl, B2.out⟩
end Go.Proofs.YtknkmblacaaegaaDoor
