/- FrameSpoilt is true. -/
import Derived.Test.YtkiagnlpnphghaaDoorFrBackWalk
import Derived.Test.YtkiagnlpnphghaaDoorFrFlips
namespace Go.Proofs.YtkiagnlpnphghaaDoor
open Go.RowKit
set_option linter.unusedVariables false
set_option linter.unusedSimpArgs false

theorem frms_split {fs : List Fr} {k : Nat} (h : k < fs.length) : frms fs = (frms (fs.take k) ++ head9 (fth fs k)) ++ ((fth fs k).2 ++ frms (fs.drop (k + 1))) := by
  conv => lhs; rw [← List.take_append_drop (k + 1) fs, take_fth h, frms_append, frms_append, frms_one]
  unfold frm
  simp only [List.append_assoc]
/-- The frames, j bits of one of them turned. -/
def turnedAt (fs : List Fr) (k t p j : Nat) : List Int := (frms (fs.take k) ++ head9 (fth fs k)) ++ (flips t p j (fth fs k).2 ++ frms (fs.drop (k + 1)))
theorem turnedAt_zero {fs : List Fr} {k : Nat} (h : k < fs.length) (t p : Nat) : turnedAt fs k t p 0 = frms fs := (frms_split h).symm
theorem turnedAt_length {fs : List Fr} {k : Nat} (h : k < fs.length) (t p j : Nat) : (turnedAt fs k t p j).length = (frms fs).length := by
  conv => rhs; rw [frms_split h]
  unfold turnedAt
  simp only [List.length_append, flips_length]
theorem turnedAt_nth {fs : List Fr} {k : Nat} (h : k < fs.length) (t p j i : Nat) (hi : i < (fth fs k).2.length) : nth (turnedAt fs k t p j) ((frms (fs.take k)).length + 9 + i) = nth (flips t p j (fth fs k).2) i := by
  unfold turnedAt nth
  rw [show (frms (fs.take k)).length + 9 = (frms (fs.take k) ++ head9 (fth fs k)).length by rw [List.length_append, head9_length]]
  simp only [List.getD]
  rw [List.getElem?_append_right (by omega), List.getElem?_append_left (by rw [flips_length]; omega)]
  congr 2
  omega
theorem turnedAt_yes {fs : List Fr} {k : Nat} (h : k < fs.length) {t p j : Nat} (hb : t / 2 ^ j % 2 = 1) (hp : p + j < 8 * (fth fs k).2.length) :
    (turnedAt fs k t p j).set ((frms (fs.take k)).length + 9 + (p + j) / 8) (((nth (flips t p j (fth fs k).2) ((p + j) / 8)).toNat ^^^ 2 ^ ((p + j) % 8) : Nat) : Int) = turnedAt fs k t p (j + 1) := by
  unfold turnedAt
  rw [show (frms (fs.take k)).length + 9 = (frms (fs.take k) ++ head9 (fth fs k)).length by rw [List.length_append, head9_length], set_mid _ _ _ _ _ (by rw [flips_length]; omega)]
  congr 2
  rw [flips, if_pos hb]
  rfl
theorem turnedAt_no {fs : List Fr} {k : Nat} {t p j : Nat} (hb : ¬ t / 2 ^ j % 2 = 1) : turnedAt fs k t p (j + 1) = turnedAt fs k t p j := by
  unfold turnedAt
  rw [flips, if_neg hb]

theorem turned_scan {fs : List Fr} (h : OkFrs fs) {k t p : Nat} (hk : k < fs.length) (hp : p + 32 ≤ 8 * (fth fs k).2.length) (ht : t < 4294967296) (h0 : t ≠ 0) :
    scan (turnedAt fs k t p 32) = (fs.take k, (frms (fs.take k)).length, true) := by
  unfold turnedAt
  rw [List.append_assoc]
  exact scan_spoilt (fun f hf => h f (List.mem_of_mem_take hf)) (h _ (fth_mem hk)).1 (h _ (fth_mem hk)).2 (flips_length ..) (crc_flips hp ht h0) _
theorem turned_oct {fs : List Fr} (h : OkFrs fs) {k t p j : Nat} (hk : k < fs.length) (hp : p + j ≤ 8 * (fth fs k).2.length) : Oct (turnedAt fs k t p j) := by
  have hf := h _ (fth_mem hk)
  unfold turnedAt
  exact ((frms_oct fun f hf => h f (List.mem_of_mem_take hf)).append fun x hx => frm_oct hf.1 hf.2 x (List.mem_append_left _ hx)).append
    ((flips_oct t p j hf.2 hp).append (frms_oct fun f hf => h f (List.mem_of_mem_drop hf)))
theorem bit_turn {x : Int} {k : Nat} (h0 : 0 ≤ x) (h1 : x < 256) (hk : k < 8) : bits .xor .u8 x (2 ^ k % 256) = ((x.toNat ^^^ 2 ^ k : Nat) : Int) := by
  obtain ⟨n, rfl⟩ : ∃ n : Nat, x = n := ⟨x.toNat, by omega⟩
  have hp : (2 : Nat) ^ k < 256 := Nat.pow_lt_pow_right (a := 2) (n := 8) (by decide) hk
  have e : ((2 : Int) ^ k % 256) = ((2 ^ k : Nat) : Int) := by
    have h2 : ((2 ^ k : Nat) : Int) = (2 : Int) ^ k := Int.natCast_pow 2 k
    generalize (2 : Int) ^ k = z at *
    generalize 2 ^ k = y at *
    omega
  rw [e, Go.u8_xor_nat _ _ (by omega) hp, Int.toNat_natCast]

set_option maxHeartbeats 4000000 in
set_option maxRecDepth 100000 in
theorem frameSpoiltOf (v : Value) (vs : List Value) (fs : List Fr) (which at_ : Int) (t : Int) (w : World) (T : Tab w) (h : Frs w v vs fs) (ho : Octs fs) (hsh : Short fs)
    (hww : (Lit.int .i64 which).wf = true) (haw : (Lit.int .i64 at_).wf = true) (ht0 : 0 ≤ t) (ht1 : t < 4294967296) :
    Calls Tryd.prog 7 #[v, .int .i64 which, .int .i64 at_, .int .u32 t] w (Gives (.bool true) w) := by
  obtain ⟨ao, cap, hshp⟩ := h.shape
  have AW := Lib.hid (awakeOf w T)
  have G := fun W (hb : Below w.heap.size w W) => Lib.hid (great v vs fs W (h.past hb) hsh)
  have OW := fun W (hb : Below w.heap.size w W) ht => Lib.hid (ownOf v vs fs W (h.past hb) ht)
  have PW := fun n W hn h0 => Lib.hid (pickIn which n W hww hn h0)
  have PA := fun n W hn h0 => Lib.hid (pickIn at_ n W haw hn h0)
  have HT := Lib.hid T
  have H := Lib.hid h
  have HO := Lib.hid ho
  subst hshp
  have hcapa : fs.length ≤ cap := by
    rcases h.2 with ⟨h1, _⟩ | ⟨_, _, _, hv, h1, _⟩
    · rw [h1]; exact Nat.zero_le _
    · cases hv; exact h1
  clear T h ho hsh hww haw
  generalize hn : fs.length = n at *
  have hN := Lib.hid hn
  clear hn
  obtain ⟨t, rfl⟩ : ∃ m : Nat, t = m := ⟨t.toNat, by omega⟩
  go_enter Tryd.func7, Tryd.ntmps7
  go_wp2_with fail
  refine (AW.out).mono ?_; rintro e w1 ⟨rfl, b1⟩
  have B1 := Lib.hid b1
  clear b1 AW
  have G1 := G w1 B1.out
  go_wp2_with fail
  refine (G1.out).mono ?_; rintro e w0 ⟨g, rfl, rfl, hg⟩
  clear G G1
  cases g
  · have ht := Lib.hid (hg rfl)
    clear hg
    have hm := Lib.hid (show n + total fs ≤ 20000 by have := ht.out; have := hN.out; omega)
    by_cases hn0 : n = 0
    · have hd : ((n : Int) == 0) = true := by simp; exact hn0
      clear OW
      go_wp2_with fail
      go_ret
      exact ⟨rfl, B1.out⟩
    · have hd : ((n : Int) == 0) = false := by simp; exact hn0
      by_cases hz : t = 0
      · have hd2 : ((t : Int) == 0) = true := by simp; exact hz
        clear OW
        go_wp2_with fail
        go_ret
        exact ⟨rfl, B1.out⟩
      · have hd2 : ((t : Int) == 0) = false := by simp; exact hz
        obtain ⟨q, hq, P1⟩ := (PW n w1 (by have := hm.out; omega) (by omega)).out
        have HP1 := Lib.hid P1
        clear P1 PW
        go_wp2_with fail
        refine (HP1.out).mono ?_; rintro e w2 ⟨rfl, rfl⟩
        clear HP1
        obtain ⟨b2, off2, cap2, hsh2, hbl2, hf2⟩ := ((H.out).past B1.out).at (j := q) (by have := hN.out; omega)
        have hao2 : ao = some ⟨b2, off2, none⟩ := by cases hsh2; rfl
        subst hao2
        have g1 := hf2.c1
        obtain ⟨al, cl, hsl⟩ := hf2.bs.shape
        rw [hsl] at g1
        have i0 : (0 : Int) ≤ (q : Int) := by omega
        have i1 : (q : Int) < (n : Int) := by omega
        clear hf2 hsh2 hsl
        generalize hD : (fth fs q).2.length = D at *
        have HD := Lib.hid hD
        clear hD
        have LB := OW w1 B1.out hm.out
        go_wp2_with fail
        refine (LB.out).mono ?_; rintro e w2 ⟨a1, c1, us, rfl, l1, b3⟩
        have hfl := Lib.hid (show (frms fs).length ≤ 180000 by rw [frms_total]; have := ht.out; have := hN.out; omega)
        have B2 := Lib.hid (bel_trans B1.out b3)
        have PT := Lib.hid (put _ us fs w2 ((HT.out).past B2.out) l1.frs HO.out (by have := hfl.out; omega))
        clear l1 b3 LB OW
        rw [hN.out]
        rw [hN.out] at PT
        clear g1
        go_wp2_with fail
        refine (PT.out).mono ?_; rintro e w3 ⟨a2, n2, c2, rfl, o2, b3⟩
        have B3 := Lib.hid (bel_trans B2.out b3)
        clear b3 PT
        by_cases he : putErr fs = 0
        · rw [if_pos he] at o2
          rw [he]
          have OK := Lib.hid (show OkFrs fs from fun f hf => ⟨putErr_ok he f hf, HO.out f hf⟩)
          have hql := o2.slen'
          have hQ := Lib.hid (show n2 = (frms fs).length from hql)
          have O2 := Lib.hid o2
          clear o2 he hql
          by_cases hD4 : D < 4
          · have hd4 : decide ((D : Int) < 4) = true := by simp; omega
            clear PA
            go_wp2_with fail
            go_ret
            exact ⟨rfl, B3.out⟩
          · have hd4 : decide ((D : Int) < 4) = false := by simp; omega
            have hn20 : n ≤ 20000 := by have := hm.out; omega
            have hD20 : D ≤ 20000 := by have := total_each (fs := fs) (k := q) (by have := hN.out; omega); have := hm.out; have := HD.out; omega
            go_wp2_with fail
            go_loopw [12, 13] (fun nn ii wr => ∃ k a : Nat, k ≤ q ∧ ii = .int .i64 k ∧ nn = .int .i64 a ∧ Hid (a = (frms (fs.take k)).length) ∧ a ≤ 180000 ∧ wr = w3) (fun _ ii _ => q - (intOf ii).toNat)
            case atStart => exact ⟨0, 0, Nat.zero_le _, rfl, rfl, Lib.hid (by simp [frms]), Nat.zero_le _, rfl⟩
            case round =>
              obtain ⟨k, a, hk, rfl, rfl, ha, hac, rfl⟩ := hrel
              by_cases hlt : k < q
              · have hdk : decide (k < q) = true := by simpa using hlt
                obtain ⟨b3, off3, cap3, hsh3, hbl3, hf3⟩ := ((H.out).past B3.out).at (j := k) (by have := hN.out; omega)
                have hbb : b2 = b3 ∧ off2 = off3 := by cases hsh3; exact ⟨rfl, rfl⟩
                obtain ⟨rfl, rfl⟩ := hbb
                have g1 := hf3.c1
                obtain ⟨al3, cl3, hsl⟩ := hf3.bs.shape
                rw [hsl] at g1
                have i0 : (0 : Int) ≤ (k : Int) := by omega
                have i1 : (k : Int) < (n : Int) := by omega
                have hs1 := Lib.hid (frms_take_succ (fs := fs) (k := k) (by have := hN.out; omega))
                have hs2 := Lib.hid (frms_take_le fs (k + 1))
                have hdl := total_each (fs := fs) (k := k) (by have := hN.out; omega)
                have hm20 : (fth fs k).2.length ≤ 20000 := by have := hm.out; omega
                clear hf3 hsh3 hsl hdl
                generalize (fth fs k).2.length = m at *
                go_wp2_with fail
                go_roundw
                case rel => exact ⟨k + 1, a + 9 + m, by omega, by go_num, by go_num, Lib.hid (by rw [hs1.out, ← ha.out]), by have := hs1.out; have := hs2.out; have := hfl.out; have := ha.out; omega, trivial⟩
                case measure => simp [intOf]; omega
              · have hdk : decide (k < q) = false := by simpa using hlt
                have hk' : k = q := by omega
                subst hk'
                have hs1 := Lib.hid (frms_take_succ (fs := fs) (k := k) (by have := hN.out; omega))
                have hs2 := Lib.hid (frms_take_le fs (k + 1))
                have hlen : a + 9 + D ≤ n2 := by have := hs1.out; have := hs2.out; have := ha.out; have := hQ.out; have := HD.out; omega
                have hd5 : decide ((n2 : Int) < (a : Int) + 9 + (D : Int)) = false := by simp; omega
                obtain ⟨p, hp, P2⟩ := (PA (8 * D - 31) wr (by omega) (by omega)).out
                rw [show ((8 * D - 31 : Nat) : Int) = 8 * (D : Int) - 31 from by omega] at P2
                have HP2 := Lib.hid P2
                clear P2 PA
                go_wp2_with fail
                refine (HP2.out).mono ?_; rintro e w4 ⟨rfl, rfl⟩
                clear HP2
                go_wp2_with fail
                have hkf := Lib.hid (show k < fs.length by have := hN.out; omega)
                have BW := Lib.hid B3.out
                have O3 := O2.out
                rw [← turnedAt_zero hkf.out t p] at O3
                obtain ⟨g, cg, hvg, -⟩ := own_pos O3 (by rw [turnedAt_length hkf.out]; have := hQ.out; omega)
                obtain rfl : a2 = some ⟨g, 0, none⟩ := by injection hvg
                clear hvg
                have hW2 := Lib.hid (show w.heap.size ≤ w2.heap.size from (B2.out).size)
                have OS := Lib.hid O3
                clear O3 O2
                obtain ⟨wo, rfl⟩ : ∃ wo : World, wo = wr := ⟨_, rfl⟩
                go_loopw [14, 15] (fun jj _ W => ∃ j : Nat, j ≤ 32 ∧ jj = .int .i64 j ∧ Hid (Own W w2.heap.size (.slice (some ⟨g, 0, none⟩) n2 c2) (turnedAt fs k t p j)) ∧ Hid (Below w.heap.size w W)) (fun jj _ _ => 32 - (intOf jj).toNat)
                case atStart => exact ⟨0, Nat.zero_le _, rfl, OS, BW⟩
                case round =>
                  obtain ⟨j, hj, rfl, HOj, HBj⟩ := hrel
                  by_cases hj2 : j < 32
                  · have hdj : decide ((j : Int) < 32) = true := by simp; omega
                    have hj3 : (j : Int) < 32 := by omega
                    have e3 := Lib.hid (show bits .and .u32 ((t : Int) / 2 ^ j) 1 = ((t / 2 ^ j % 2 : Nat) : Int) from by
                      have hst : t / 2 ^ j ≤ t := Nat.div_le_self _ _
                      have := (bit_step (c := t / 2 ^ j) (by omega)).1
                      simpa using this)
                    by_cases hb0 : t / 2 ^ j % 2 = 1
                    · have e4 : (bits .and .u32 ((t : Int) / 2 ^ j) 1 == 1) = true := by rw [e3.out, hb0]; rfl
                      have hb := Lib.hid hb0
                      clear hb0 e3
                      obtain ⟨y, hy⟩ : ∃ y : Nat, y = (p + j) / 8 := ⟨_, rfl⟩
                      obtain ⟨x, hx⟩ : ∃ x : Nat, x = a + 9 + y := ⟨_, rfl⟩
                      have hxi := Lib.hid (show (a : Int) + 9 + ((p : Int) + (j : Int)) / 8 = (x : Int) by omega)
                      have HX := Lib.hid hx
                      have HYY := Lib.hid hy
                      clear hx hy
                      go_upto_region 23 with fail
                      rw [hxi.out]
                      have hx := HX.out
                      have hy := HYY.out
                      have hyD : y < D := by omega
                      have hxn : x < n2 := by omega
                      obtain ⟨cells, frz⟩ := own_cells HOj.out
                      have cx := cells x hxn
                      have fx := frz x
                      have hnx := turnedAt_nth hkf.out t p j y (by have := HD.out; omega)
                      rw [← ha.out, ← hx] at hnx
                      rw [hnx] at cx
                      have hvo := (flips_oct t p j (OK.out _ (fth_mem hkf.out)).2 (by have := HD.out; omega)).nth (j := y) (by rw [flips_length]; have := HD.out; omega)
                      have HY := turnedAt_yes hkf.out hb.out (p := p) (by have := HD.out; omega)
                      rw [← hy, ← ha.out, ← hx] at HY
                      have i0 : (0 : Int) ≤ (x : Int) := by omega
                      have i1 : (x : Int) < (n2 : Int) := by omega
                      have HYH := Lib.hid HY
                      clear hx hy hxi cells frz hnx HY
                      have hbx := Lib.hid (bit_turn hvo.1 hvo.2 (Nat.mod_lt (p + j) (show 0 < 8 by decide)))
                      generalize nth (flips t p j (fth fs k).2) y = V at *
                      go_wp2_with fail
                      go_roundw
                      case rel =>
                        refine ⟨j + 1, by omega, by go_num, Lib.hid ?_, Lib.hid ?_⟩
                        · rw [hbx.out, ← HYH.out]; exact (HOj.out).stored x _
                        · exact (HBj.out).setCell (p := ⟨g, x, none⟩) (by have := ((HOj.out).lt g rfl).1; have := hW2.out; show w.heap.size ≤ g; omega) _
                      case measure => simp [intOf]; omega
                    · have e4 : (bits .and .u32 ((t : Int) / 2 ^ j) 1 == 1) = false := by rw [e3.out, show t / 2 ^ j % 2 = 0 by omega]; rfl
                      have hb := Lib.hid hb0
                      clear hb0 e3
                      go_wp2_with fail
                      go_roundw
                      case rel => exact ⟨j + 1, by omega, by go_num, Lib.hid (by rw [turnedAt_no hb.out]; exact HOj.out), HBj⟩
                      case measure => simp [intOf]; omega
                  · have hdj : decide ((j : Int) < 32) = false := by simp; omega
                    obtain rfl : j = 32 := by omega
                    have hTS := Lib.hid (turned_scan OK.out hkf.out (t := t) (p := p) (by have := HD.out; omega) (by omega) hz)
                    rw [← ha.out] at hTS
                    have SC2 := Lib.hid (scanIs _ _ wr ((HT.out).past (HBj.out)) (HOj.out).bs (turned_oct OK.out hkf.out (t := t) (p := p) (j := 32) (by have := HD.out; omega)) (by rw [turnedAt_length hkf.out]; have := hfl.out; omega) hTS.out)
                    have haa : ((a : Int) == (a : Int)) = true := by simp
                    have haa2 : (a == a) = true := by simp
                    have hkc : k ≤ cap := by omega
                    go_wp2_with fail
                    refine (SC2.out).mono ?_; rintro e w6 ⟨a6, n6, c6, vs6, rfl, o6, t6, b6, hl6⟩
                    have B6 := Lib.hid (bel_trans HBj.out b6)
                    have SM2 := Lib.hid (sameOf (.slice a6 n6 c6) (.slice (some ⟨b2, off2, none⟩) k cap) vs6 (vs.take k) (fs.take k) w6 (t6.frs o6) (((H.out).past B6.out).take (Nat.le_of_lt hkf.out)))
                    clear o6 t6 b6 hl6 SC2
                    go_wp2_with fail
                    refine (SM2.out).mono ?_; rintro e w7 ⟨rfl, s7⟩
                    have B7 := Lib.hid (bel_past B6.out s7.past)
                    clear s7 SM2
                    go_wp2_with fail
                    go_ret
                    exact ⟨rfl, B7.out⟩
        · have hd2 : ((putErr fs : Int) != 0) = true := by simp; exact he
          clear o2 he PA
          generalize putErr fs = er at *
          go_wp2_with fail
          go_ret
          exact ⟨rfl, B3.out⟩
  · clear OW hg
    go_wp2_with fail
    go_ret
    exact ⟨rfl, B1.out⟩
theorem u32_in {x : Int} (h : (Lit.int .u32 x).wf = true) : 0 ≤ x ∧ x < 4294967296 := by
  simp [Lit.wf, IntKind.min, IntKind.max, IntKind.signed, IntKind.bits] at h
  omega
end Go.Proofs.YtkiagnlpnphghaaDoor
