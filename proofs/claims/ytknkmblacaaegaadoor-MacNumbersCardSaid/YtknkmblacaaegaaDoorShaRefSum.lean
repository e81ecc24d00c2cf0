/- The document's digest of any bytes. -/
import Derived.Test.YtknkmblacaaegaaDoorShaRefWords
import Derived.Deep.Upon
namespace Go.Proofs.YtknkmblacaaegaaDoor
open Go.RowKit
set_option linter.unusedVariables false
set_option linter.unusedSimpArgs false
set_option maxRecDepth 100000

theorem big_or64 {x : Nat} (h : x < 4294967296) (i j k : Nat) : bits .xor .u64 (bits .xor .u64 ((rotr i x : Nat) : Int) ((rotr j x : Nat) : Int)) ((rotr k x : Nat) : Int) = ((rotr i x ^^^ rotr j x ^^^ rotr k x : Nat) : Int) := by
  have l0 := rotr_lt (n := i) h
  have l1 := rotr_lt (n := j) h
  have l2 := rotr_lt (n := k) h
  have l3 := xor_lt l0 l1
  rw [Go.u64_xor_nat _ _ (by omega) (by omega), Go.u64_xor_nat _ _ (by omega) (by omega)]
theorem cho_or64 {e f g : Nat} (he : e < 4294967296) (hf : f < 4294967296) (hg : g < 4294967296) : bits .or .u64 (bits .and .u64 (e : Int) f) (bits .and .u64 (bits .xor .u64 4294967295 (e : Int)) g) = ((cho e f g : Nat) : Int) := by
  have l1 : e &&& f < 4294967296 := and_lt he
  have l2 : (4294967295 - e) &&& g < 4294967296 := and_lt (by omega)
  rw [show (4294967295 : Int) = ((4294967295 : Nat) : Int) from rfl, Go.u64_xor_nat _ _ (by decide) (by omega), all_xor he, Go.u64_and_nat _ _ (by omega) (by omega), Go.u64_and_nat _ _ (by omega) (by omega), Go.u64_or_nat _ _ (by omega) (by omega)]
  rfl
theorem mja_or64 {a b c : Nat} (ha : a < 4294967296) (hb : b < 4294967296) (hc : c < 4294967296) : bits .or .u64 (bits .or .u64 (bits .and .u64 (a : Int) b) (bits .and .u64 (a : Int) c)) (bits .and .u64 (b : Int) c) = ((mja a b c : Nat) : Int) := by
  have l1 : a &&& b < 4294967296 := and_lt ha
  have l2 : a &&& c < 4294967296 := and_lt ha
  have l3 : b &&& c < 4294967296 := and_lt hb
  have l4 := or_lt l1 l2
  rw [Go.u64_and_nat _ _ (by omega) (by omega), Go.u64_and_nat _ _ (by omega) (by omega), Go.u64_and_nat _ _ (by omega) (by omega), Go.u64_or_nat _ _ (by omega) (by omega), Go.u64_or_nat _ _ (by omega) (by omega)]
  rfl
/-- The digest of a message, block by block. -/
theorem digest_is (l : List Int) (p : Nat) (hp : (msg l).length = 64 * p) : digest l = (runs hon (msg l) p).bytes := by
  unfold digest
  rw [hp, Nat.mul_div_cancel_left _ (by decide)]
theorem msg_blocks (l : List Int) : (msg l).length = 64 * ((l.length + (padOf l.length + 9)) / 64) := by
  rw [msg_length]
  have := padOf_eq l.length
  omega

theorem mixedq_set (s r : Sta) {k : Nat} (h : k < 8) : (mixed s r k).set k ((wth s.list k + wth r.list k) % 4294967296) = mixed s r (k + 1) := by
  obtain rfl | rfl | rfl | rfl | rfl | rfl | rfl | rfl : k = 0 ∨ k = 1 ∨ k = 2 ∨ k = 3 ∨ k = 4 ∨ k = 5 ∨ k = 6 ∨ k = 7 := by omega
  all_goals rfl
theorem mixedq_at (s r : Sta) {k : Nat} (h : k < 8) : wth (mixed s r k) k = wth s.list k := by
  obtain rfl | rfl | rfl | rfl | rfl | rfl | rfl | rfl : k = 0 ∨ k = 1 ∨ k = 2 ∨ k = 3 ∨ k = 4 ∨ k = 5 ∨ k = 6 ∨ k = 7 := by omega
  all_goals rfl
theorem mixed_length (s r : Sta) (k : Nat) : (mixed s r k).length = 8 := rfl
set_option maxHeartbeats 8000000 in
theorem refSha (v : Value) (l : List Int) (w : World) (h : Bs w v l) (ho : Oct l) (hl : l.length ≤ 50000) :
    Calls Tryd.prog 21 #[v] w fun e w' => Fresh (digest l) w e w' := by
  obtain ⟨ao, cap, hsh⟩ := h.shape
  subst hsh
  have RH := Lib.hid (rootsEight w)
  have RK := Lib.hid (fun w1 => rootsAll w1)
  have MG := Lib.hid (fun w1 (hb : Below w.heap.size w w1) => message (.slice ao l.length cap) l w1 (h.past hb) hl)
  have HMO := Lib.hid (msg_oct ho)
  obtain ⟨p, hp⟩ : ∃ p, p = (l.length + (padOf l.length + 9)) / 64 := ⟨_, rfl⟩
  have hml := msg_blocks l
  rw [← hp] at hml
  have hp1000 : p ≤ 1000 := by have := padOf_lt l.length; omega
  have HML := Lib.hid hml
  have HD := Lib.hid (digest_is l p hml)
  clear h ho hl hml hp
  go_enter Tryd.func21, Tryd.ntmps21
  go_wp2_with fail
  refine (RH.out).mono ?_; rintro e1 w1 ⟨ah, ch, rfl, oh, hb1⟩
  go_wp2_with fail
  refine ((RK.out) w1).mono ?_; rintro e2 w2 ⟨ak, ck, rfl, ok, hb2⟩
  go_wp2_with fail
  refine ((MG.out) w2 (bel_trans hb1 hb2)).mono ?_; rintro e3 w3 ⟨vm, rfl, om, hb3⟩
  obtain ⟨gh, ch', hsh, gh1, gh2, -, -⟩ := oh.pos (by decide)
  obtain ⟨gk, ck', hsk, gk1, gk2, -, -⟩ := ok.pos (by decide)
  injection hsh with hah h8 hch
  injection hsk with hak h64 hck
  clear h8 h64
  subst hah hch hak hck
  obtain ⟨am, cm, hsm⟩ := om.bs.shape
  subst hsm
  obtain ⟨n, hn⟩ : ∃ n, n = (msg l).length := ⟨_, rfl⟩
  rw [← hn] at om ⊢
  have HN : Hid (n = 64 * p) := Lib.hid (hn.trans HML.out)
  have HNm := Lib.hid hn
  have hnb : n ≤ 100000 := by have := HN.out; omega
  have z1 := hb1.size
  have z2 := hb2.size
  have z3 := hb3.size
  have OH : Hid (OwnQ w3 w.heap.size (.slice (some ⟨gh, 0, none⟩) 8 ch) (runs hon (msg l) 0).list) := Lib.hid ((oh.past hb2).past hb3)
  have OK := Lib.hid (ok.past hb3)
  have OM := Lib.hid om
  have B3 := Lib.hid (bel_trans (bel_trans hb1 hb2) hb3)
  have HGH := Lib.hid (And.intro gh1 gh2)
  have HGK := Lib.hid (And.intro gk1 gk2)
  have HZ := Lib.hid (And.intro z1 (And.intro z2 z3))
  clear oh ok om hb1 hb2 hb3 hn gh1 gh2 gk1 gk2 z1 z2 z3 RH RK MG
  generalize msg l = M at *
  go_wp2
  go_loopw [6] (fun i wr => ∃ (k q : Nat), k ≤ p ∧ Hid (q = 64 * k) ∧ i = .int .i64 (q : Nat) ∧ Hid (OwnQ wr w.heap.size (.slice (some ⟨gh, 0, none⟩) 8 ch) (runs hon M k).list) ∧ Hid (OwnQ wr w1.heap.size (.slice (some ⟨gk, 0, none⟩) 64 ck) kon) ∧ Hid (Own wr w2.heap.size (.slice am n cm) M) ∧ Hid (Below w.heap.size w wr) ∧ Hid (w3.heap.size ≤ wr.heap.size)) (fun i _ => n - (intOf i).toNat)
  case atStart => exact ⟨0, 0, Nat.zero_le _, Lib.hid rfl, rfl, OH, OK, OM, B3, Lib.hid (Nat.le_refl _)⟩
  case round =>
    clear OH OK OM B3
    obtain ⟨k, q, hk, HQ, rfl, OH, OK, OM, B, Z⟩ := hrel
    by_cases hlt : k < p
    · have hqn : q + 64 ≤ n := by have := HQ.out; have := HN.out; omega
      have hd : decide ((q : Int) < (n : Int)) = true := by simp; omega
      obtain ⟨b, off, cap', hsh, hc1, hcm, -, -⟩ := (OM.out).bs.at (by have := HNm.out; omega)
      rw [← HNm.out] at hc1 hsh
      injection hsh with hao hnn hcc
      clear hnn
      subst hao hcc
      have hbs := ((OM.out).bs).drop (n := q) (by have := HNm.out; omega)
      rw [if_neg (by omega)] at hbs
      have hbs2 := hbs.take (n := 64) (by have := HNm.out; simp; omega)
      have hadd : (some (⟨b, off, none⟩ : Addr)).map (·.add q) = some ⟨b, off + q, none⟩ := by simp [add_none]
      rw [hadd] at hbs2
      have HR : Hid (runs hon M (k + 1) = blk (runs hon M k) ((M.drop q).take 64)) := Lib.hid (by rw [HQ.out]; rfl)
      have HBK : Hid (blk (runs hon M k) ((M.drop q).take 64) = (runs hon M k).add (rounds (wds ((M.drop q).take 64)) (runs hon M k) 64)) := Lib.hid rfl
      have hwr := Lib.hid (wds_wrd (((HMO.out).drop q).take 64))
      have hwl := Lib.hid (wds_length ((M.drop q).take 64))
      have WS := Lib.hid (refWords _ _ wr hbs2 (((HMO.out).drop q).take 64) (by have := HNm.out; simp; omega))
      have ok := Lib.hid (runs_ok hon_ok M k)
      have hq64 : (q : Int) + 64 ≤ (cm : Int) := by omega
      have ne1 : ¬ cm = q := by omega
      have n64 : q + 64 - q = 64 := by omega
      clear hbs hbs2 hadd
      generalize wds ((M.drop q).take 64) = W at *
      generalize blk (runs hon M k) ((M.drop q).take 64) = nxt at *
      generalize hs0 : runs hon M k = s0 at *
      have HS0 := Lib.hid hs0
      clear hs0
      go_wp2_with fail
      refine (WS.out).mono ?_; rintro e4 w4 ⟨aw, cw, rfl, ow, hb4⟩
      have z4 := hb4.size
      have Z4 : Hid (w3.heap.size ≤ w4.heap.size) := Lib.hid (Nat.le_trans Z.out z4)
      have OH := Lib.hid ((OH.out).past hb4)
      have OK := Lib.hid ((OK.out).past hb4)
      have OM := Lib.hid ((OM.out).below hb4 (Nat.le_refl _))
      have B := Lib.hid (bel_past B.out hb4)
      have OW := Lib.hid ow
      clear ow hb4 z4 Z WS
      obtain ⟨gw, cw', hsw, gw1, gw2, -, cellw⟩ := (OW.out).pos (by rw [hwl.out]; decide)
      rw [hwl.out] at hsw cellw
      injection hsw with haw h64 hcw
      subst haw hcw
      have HGW := Lib.hid (And.intro gw1 gw2)
      have CW := Lib.hid cellw
      clear h64 gw1 gw2 cellw
      have O5 := Lib.hid (show OwnQ (w4.alloc (.cells #[] 71)) w4.heap.size (.slice (some ⟨w4.heap.size, 0, none⟩) 0 0) [] from ownq_lit w4 w4.heap.size (Nat.le_refl _) [] (by decide))
      have L5 := Lib.hid (((OH.out).qs).alloc (.cells #[] 71))
      have B5 := Lib.hid (alloc_below w4 (.cells #[] 71))
      go_wp2_with (at_builtin; refine wpList_append_q _ rfl _ _ rfl w4.heap.size _ [] rfl O5.out _ s0.list rfl L5.out (by show 0 < 8; decide) (by show 0 + 8 ≤ 1000000; decide) (by simp) ?_)
      intro v6 w6 ho6 hg6
      have B6 : Below w4.heap.size w4 w6 := (B5.out).grown hg6 (by simp) (fun k hk => ((O5.out).lt k hk).1)
      obtain ⟨a6, c6, hs6⟩ := ho6.qs.shape
      have hs7 : v6 = .slice a6 8 c6 := hs6
      subst hs7
      have O6 : Hid (OwnQ w6 w4.heap.size (.slice a6 8 c6) (rounds W s0 0).list) := Lib.hid ho6
      have B6 := Lib.hid B6
      clear ho6 hg6 hs6 O5 L5 B5
      obtain ⟨g6, c6', hs6, g61, g62, -, -⟩ := (O6.out).pos (by show 0 < 8; decide)
      injection hs6 with ha6 h8 hc6
      clear h8 g61 g62
      subst ha6 hc6
      go_wp2
      go_loopw [8, 9] (fun x i wr => ∃ (t g c : Nat), t ≤ 64 ∧ x = .slice (some ⟨g, 0, none⟩) 8 c ∧ i = .int .i64 (t : Nat) ∧ Hid (OwnQ wr w4.heap.size (.slice (some ⟨g, 0, none⟩) 8 c) (rounds W s0 t).list) ∧ Hid (Below w4.heap.size w4 wr)) (fun _ i _ => 64 - (intOf i).toNat)
      case atStart => exact ⟨0, g6, _, Nat.zero_le _, rfl, rfl, O6, B6⟩
      case round =>
        clear O6 B6
        obtain ⟨t, g, c, ht, rfl, rfl, OS, BS⟩ := hrel
        by_cases hlt2 : t < 64
        · as_aux_lemma =>
            have hd2 : decide ((t : Int) < 64) = true := by simp; omega
            have t64 : (t : Int) < 64 := by omega
            have rok := rounds_ok ok.out W t
            have HST : Hid (rounds W s0 (t + 1) = (rounds W s0 t).step ((wth kon t + wth W t) % 4294967296)) := Lib.hid rfl
            obtain ⟨gk2, ck2, hsk2, -, hgk2, -, cellk⟩ := (OK.out).pos (by decide)
            injection hsk2 with hak2 h64 hck2
            injection hak2 with hak2
            injection hak2 with hak2 _ _
            clear h64 hck2
            subst hak2
            have ckt : wr.cell? ⟨gk, t, none⟩ = some (.int .u64 (wth kon t : Nat)) := ((BS.out).cell (p := ⟨gk, t, none⟩) hgk2).trans (cellk t (by rw [kon_length]; exact hlt2))
            have cwt : wr.cell? ⟨gw, t, none⟩ = some (.int .u64 (wth W t : Nat)) := ((BS.out).cell (p := ⟨gw, t, none⟩) HGW.out.2).trans ((CW.out) t hlt2)
            have lk := kon_wrd.wth t
            have lw := (hwr.out).wth t
            obtain ⟨g2, c2, hs2, hgb, -, -, cells⟩ := (OS.out).pos (by show 0 < 8; decide)
            injection hs2 with ha2 h8 hc2
            injection ha2 with ha2
            injection ha2 with ha2 _ _
            clear h8 hc2 hgk2 cellk
            subst ha2
            generalize hr : rounds W s0 t = r at *
            have HRT := Lib.hid hr
            clear hr
            obtain ⟨ra, rb, rc, rd, re, rf, rg, rh⟩ := r
            obtain ⟨la, lb, lc, ld, le, lf, lg, lh⟩ := rok
            simp only at la lb lc ld le lf lg lh
            have k0 : wr.cell? ⟨g, 0, none⟩ = some (.int .u64 ra) := cells 0 (by show 0 < 8; decide)
            have k1 : wr.cell? ⟨g, 1, none⟩ = some (.int .u64 rb) := cells 1 (by show 1 < 8; decide)
            have k2 : wr.cell? ⟨g, 2, none⟩ = some (.int .u64 rc) := cells 2 (by show 2 < 8; decide)
            have k4 : wr.cell? ⟨g, 4, none⟩ = some (.int .u64 re) := cells 4 (by show 4 < 8; decide)
            have k5 : wr.cell? ⟨g, 5, none⟩ = some (.int .u64 rf) := cells 5 (by show 5 < 8; decide)
            have k6 : wr.cell? ⟨g, 6, none⟩ = some (.int .u64 rg) := cells 6 (by show 6 < 8; decide)
            have k7 : wr.cell? ⟨g, 7, none⟩ = some (.int .u64 rh) := cells 7 (by show 7 < 8; decide)
            clear cells
            generalize wth kon t = kk at *
            generalize wth W t = ww at *
            have E1 := cho_or64 le lf lg
            have E2 := mja_or64 la lb lc
            have E3 := big_or64 le 6 11 25
            have E4 := big_or64 la 2 13 22
            have l1 : cho re rf rg < 4294967296 := cho_lt le
            have l2 : mja ra rb rc < 4294967296 := mja_lt la lb
            have l3 : rotr 6 re ^^^ rotr 11 re ^^^ rotr 25 re < 4294967296 := big1_lt le
            have l4 : rotr 2 ra ^^^ rotr 13 ra ^^^ rotr 22 ra < 4294967296 := big0_lt la
            have HL : Hid ((Sta.step ⟨ra, rb, rc, rd, re, rf, rg, rh⟩ ((kk + ww) % 4294967296)).list = [((rh + (rotr 6 re ^^^ rotr 11 re ^^^ rotr 25 re) + cho re rf rg + (kk + ww) % 4294967296) % 4294967296 + ((rotr 2 ra ^^^ rotr 13 ra ^^^ rotr 22 ra) + mja ra rb rc) % 4294967296) % 4294967296, ra, rb, rc, (rd + (rh + (rotr 6 re ^^^ rotr 11 re ^^^ rotr 25 re) + cho re rf rg + (kk + ww) % 4294967296) % 4294967296) % 4294967296, re, rf, rg]) := Lib.hid rfl
            have T := fun x n k w h hn hk => (refTurned x n k w h hn hk).mono fun e w' hh => And.intro hh.2 hh.1.symm
            have hs1 := Lib.hid (show ∀ w, Calls Tryd.prog 34 #[.int .u64 re, .int .u64 6] w fun x w' => x = .returned (.int .u64 (rotr 6 re : Nat)) ∧ w' = w from fun w => T re 6 6 w le (by simp [Turn]) rfl)
            have hs2 := Lib.hid (show ∀ w, Calls Tryd.prog 34 #[.int .u64 re, .int .u64 11] w fun x w' => x = .returned (.int .u64 (rotr 11 re : Nat)) ∧ w' = w from fun w => T re 11 11 w le (by simp [Turn]) rfl)
            have hs3 := Lib.hid (show ∀ w, Calls Tryd.prog 34 #[.int .u64 re, .int .u64 25] w fun x w' => x = .returned (.int .u64 (rotr 25 re : Nat)) ∧ w' = w from fun w => T re 25 25 w le (by simp [Turn]) rfl)
            have hs4 := Lib.hid (show ∀ w, Calls Tryd.prog 34 #[.int .u64 ra, .int .u64 2] w fun x w' => x = .returned (.int .u64 (rotr 2 ra : Nat)) ∧ w' = w from fun w => T ra 2 2 w la (by simp [Turn]) rfl)
            have hs5 := Lib.hid (show ∀ w, Calls Tryd.prog 34 #[.int .u64 ra, .int .u64 13] w fun x w' => x = .returned (.int .u64 (rotr 13 ra : Nat)) ∧ w' = w from fun w => T ra 13 13 w la (by simp [Turn]) rfl)
            have hs6 := Lib.hid (show ∀ w, Calls Tryd.prog 34 #[.int .u64 ra, .int .u64 22] w fun x w' => x = .returned (.int .u64 (rotr 22 ra : Nat)) ∧ w' = w from fun w => T ra 22 22 w la (by simp [Turn]) rfl)
            clear T
            generalize Sta.step ⟨ra, rb, rc, rd, re, rf, rg, rh⟩ ((kk + ww) % 4294967296) = sn at *
            generalize rotr 6 re ^^^ rotr 11 re ^^^ rotr 25 re = r1 at *
            generalize rotr 2 ra ^^^ rotr 13 ra ^^^ rotr 22 ra = r0 at *
            generalize cho re rf rg = chh at *
            generalize mja ra rb rc = mj at *
            generalize rotr 6 re = p1 at *
            generalize rotr 11 re = p2 at *
            generalize rotr 25 re = p3 at *
            generalize rotr 2 ra = q1 at *
            generalize rotr 13 ra = q2 at *
            generalize rotr 22 ra = q3 at *
            obtain ⟨o1, ho1⟩ : ∃ o, o = rh + r1 := ⟨_, rfl⟩
            obtain ⟨o2, ho2⟩ : ∃ o, o = o1 + chh := ⟨_, rfl⟩
            obtain ⟨o3, ho3⟩ : ∃ o, o = o2 + kk := ⟨_, rfl⟩
            obtain ⟨o4, ho4⟩ : ∃ o, o = o3 + ww := ⟨_, rfl⟩
            obtain ⟨o5, ho5⟩ : ∃ o, o = r0 + mj := ⟨_, rfl⟩
            obtain ⟨o6, ho6⟩ : ∃ o, o = o4 + o5 := ⟨_, rfl⟩
            obtain ⟨o7, ho7⟩ : ∃ o, o = rd + o4 := ⟨_, rfl⟩
            have s1 : IntKind.u64.wrap ((rh : Int) + (r1 : Int)) = (o1 : Int) := by rw [IntKind.wrap_u64]; omega
            have s2 : IntKind.u64.wrap ((o1 : Int) + (chh : Int)) = (o2 : Int) := by rw [IntKind.wrap_u64]; omega
            have s3 : IntKind.u64.wrap ((o2 : Int) + (kk : Int)) = (o3 : Int) := by rw [IntKind.wrap_u64]; omega
            have s4 : IntKind.u64.wrap ((o3 : Int) + (ww : Int)) = (o4 : Int) := by rw [IntKind.wrap_u64]; omega
            have s5 : (r0 : Int) + (mj : Int) = (o5 : Int) := by omega
            have s6 : (o4 : Int) + (o5 : Int) = (o6 : Int) := by omega
            have s7 : (rd : Int) + (o4 : Int) = (o7 : Int) := by omega
            have m6 := mask32 (show o6 < 18446744073709551616 by omega)
            have m7 := mask32 (show o7 < 18446744073709551616 by omega)
            have HL2 : Hid (sn.list = [o6 % 4294967296, ra, rb, rc, o7 % 4294967296, re, rf, rg]) := Lib.hid (by
              rw [HL.out]
              congr 1
              · omega
              · congr 4
                omega)
            have hb5 : o4 < 18446744073709551616 := by omega
            have hb6 : o5 < 18446744073709551616 := by omega
            have hb7 : o6 < 18446744073709551616 := by omega
            have hb8 : o7 < 18446744073709551616 := by omega
            clear ho1 ho2 ho3 ho4 ho5 ho6 ho7 HL
            generalize o6 % 4294967296 = x0 at *
            generalize o7 % 4294967296 = x4 at *
            go_wp2
            go_quiet (fail)
            obtain ⟨n1, rfl⟩ : ∃ n1, n1 = nq := ⟨_, rfl⟩
            go_wp2
            go_quiet (fail)
            obtain ⟨n2, rfl⟩ : ∃ n1, n1 = nq := ⟨_, rfl⟩
            go_wp2
            go_quiet (fail)
            obtain ⟨n3, rfl⟩ : ∃ n1, n1 = nq := ⟨_, rfl⟩
            go_wp2
            go_quiet (first | ((with_reducible refine ((hs1.out) _).mono ?_); rintro e_ w_ ⟨rfl, rfl⟩; exact ⟨rfl, _, rfl⟩) | ((with_reducible refine ((hs2.out) _).mono ?_); rintro e_ w_ ⟨rfl, rfl⟩; exact ⟨rfl, _, rfl⟩) | ((with_reducible refine ((hs3.out) _).mono ?_); rintro e_ w_ ⟨rfl, rfl⟩; exact ⟨rfl, _, rfl⟩))
            have OS2 : Hid (OwnQ ((((wr.drewN n1).drewN n2).drewN n3).drewN nq) w4.heap.size (.slice (some ⟨g, 0, none⟩) 8 c) [ra, rb, rc, rd, re, rf, rg, rh]) := Lib.hid ((((OS.out).drewN n1).drewN n2).drewN n3 |>.drewN nq)
            have BS2 : Hid (Below w4.heap.size w4 ((((wr.drewN n1).drewN n2).drewN n3).drewN nq)) := Lib.hid ((BS.out).trans (((((Still.refl wr).drewN n1).drewN n2).drewN n3 |>.drewN nq).below _))
            clear OS BS k0 k1 k2 k4 k5 k6 k7 ckt cwt hs1 hs2 hs3 E1 E2 E3 s1 s2 s3 s4
            generalize (((wr.drewN n1).drewN n2).drewN n3).drewN nq = w7 at *
            have hz7 : w4.heap.size ≤ w7.heap.size := (BS2.out).size
            have hc8 : 8 ≤ c := by obtain ⟨_, _, e, h1, _⟩ := (OS2.out).qs; injection e with _ _ e3; rw [e3]; exact h1
            have hc7 : (7 : Int) ≤ (c : Int) := by omega
            have P7 := Lib.hid ((((OS2.out).qs).take (n := 7) (by simp)).alloc (.cells #[.int .u64 x0] 71))
            have O8 := Lib.hid (ownq_lit w7 w4.heap.size hz7 [x0] (by simp))
            have B8 := Lib.hid ((BS2.out).trans ((alloc_below w7 (.cells #[.int .u64 x0] 71)).mono hz7))
            go_wp2_with fail
            refine ((hs4.out) _).mono ?_; rintro e5 w5 ⟨rfl, rfl⟩
            go_wp2_with fail
            refine ((hs5.out) _).mono ?_; rintro e5 w5 ⟨rfl, rfl⟩
            go_wp2_with fail
            refine ((hs6.out) _).mono ?_; rintro e5 w5 ⟨rfl, rfl⟩
            go_wp2_with (at_builtin; refine wpList_append_q _ rfl _ _ rfl w4.heap.size _ [x0] rfl O8.out _ [ra, rb, rc, rd, re, rf, rg] rfl P7.out (by simp) (by simp) (by simp; omega) ?_)
            intro v9 w9 ho9 hg9
            have B9 := Lib.hid ((B8.out).grown hg9 (by simp; omega) (fun k hk => ((O8.out).lt k hk).1))
            have ho9 : OwnQ w9 w4.heap.size v9 [x0, ra, rb, rc, rd, re, rf, rg] := ho9
            obtain ⟨g9, c9, hs9, g9b, g9l, fz9, cell9⟩ := ho9.pos (by simp)
            have hs9 : v9 = .slice (some ⟨g9, 0, none⟩) 8 c9 := hs9
            subst hs9
            have cd : w9.cell? ⟨g9, 4, none⟩ = some (.int .u64 rd) := cell9 4 (by simp)
            have zd := fz9 4
            have O9 := Lib.hid (ho9.stored 4 x4)
            have B10 := Lib.hid ((B9.out).setCell (p := ⟨g9, 4, none⟩) g9b (.int .u64 x4))
            clear ho9 hg9 cell9 fz9 B9 B8 O8 P7 hs4 hs5 hs6 E4 s5 s6 m6
            go_wp2
            go_roundw
            case rel => exact ⟨t + 1, g9, c9, by omega, rfl, by go_num, Lib.hid (by rw [HST.out, HL2.out]; exact O9.out), B10⟩
            case measure => (simp [intOf]; try omega)
        · obtain rfl : t = 64 := by omega
          have hd2 : decide (((64 : Nat) : Int) < 64) = false := by decide
          have HNX : Hid ((runs hon M (k + 1)).list = mixed s0 (rounds W s0 64) 8) := Lib.hid (by rw [HR.out, HBK.out, mixed_all])
          have okr := Lib.hid (rounds_ok ok.out W 64)
          generalize rounds W s0 64 = r at *
          have OH6 : Hid (OwnQ wr w.heap.size (.slice (some ⟨gh, 0, none⟩) 8 ch) (mixed s0 r 0)) := Lib.hid ((OH.out).past BS.out)
          have OK6 := Lib.hid ((OK.out).past BS.out)
          have OM6 := Lib.hid ((OM.out).below BS.out (Nat.le_refl _))
          have B6 := Lib.hid (bel_past B.out BS.out)
          have Z6 : Hid (w3.heap.size ≤ wr.heap.size ∧ w4.heap.size ≤ wr.heap.size) := Lib.hid ⟨Nat.le_trans Z4.out (BS.out).size, (BS.out).size⟩
          have G6 := Lib.hid (grownBy_refl wr (some gh))
          have hgh4 : Hid (gh < w4.heap.size) := Lib.hid (by have := HGH.out; have := HZ.out; have := Z4.out; omega)
          rw [show ((64 : Nat) : Int) = 64 from rfl] at hd2 ⊢
          clear OH OK OM B BS
          generalize hw6 : wr = w6 at *
          go_wp2
          go_loopw [16] (fun i wr => ∃ (j : Nat), j ≤ 8 ∧ i = .int .i64 (j : Nat) ∧ Hid (OwnQ wr w.heap.size (.slice (some ⟨gh, 0, none⟩) 8 ch) (mixed s0 r j)) ∧ Hid (OwnQ wr w4.heap.size (.slice (some ⟨g, 0, none⟩) 8 c) r.list) ∧ Hid (w6.grownBy wr (some gh))) (fun i _ => 8 - (intOf i).toNat)
          case atStart => exact ⟨0, Nat.zero_le _, rfl, OH6, OS, G6⟩
          case round =>
            clear OH6 OS G6
            obtain ⟨j, hj, rfl, OH, OS, G⟩ := hrel
            by_cases hlt3 : j < 8
            · as_aux_lemma =>
                have hd3 : decide ((j : Int) < 8) = true := by simp; omega
                have j8 : (j : Int) < 8 := by omega
                obtain ⟨gx, cx, hsx, -, -, fzx, cellx⟩ := (OH.out).pos (by rw [mixed_length]; decide)
                injection hsx with hax h8 hcx
                injection hax with hax
                injection hax with hax _ _
                clear h8 hcx
                subst hax
                obtain ⟨gy, cy, hsy, -, -, -, celly⟩ := (OS.out).pos (by show 0 < 8; decide)
                injection hsy with hay h8 hcy
                injection hay with hay
                injection hay with hay _ _
                clear h8 hcy
                subst hay
                have ch1 : wr.cell? ⟨gh, j, none⟩ = some (.int .u64 (wth s0.list j : Nat)) := by
                  rw [← mixedq_at s0 r hlt3]; exact cellx j (by rw [mixed_length]; exact hlt3)
                have cs1 : wr.cell? ⟨g, j, none⟩ = some (.int .u64 (wth r.list j : Nat)) := celly j (by show j < 8; exact hlt3)
                have zf := fzx j
                have hset := Lib.hid (mixedq_set s0 r hlt3)
                have l1 := (list_wrd ok.out).wth j
                have l2 := (list_wrd okr.out).wth j
                clear cellx celly fzx
                generalize wth s0.list j = xs at *
                generalize wth r.list j = xr at *
                obtain ⟨sm, hsm⟩ : ∃ sm, sm = xs + xr := ⟨_, rfl⟩
                have t1 : IntKind.u64.wrap ((xs : Int) + (xr : Int)) = (sm : Int) := by rw [IntKind.wrap_u64]; omega
                have t2 := mask32 (show sm < 18446744073709551616 by omega)
                have wj : IntKind.i64.wrap (j : Int) = (j : Int) := IntWalk.i64_in _ (by omega)
                rw [← hsm] at hset
                generalize sm % 4294967296 = z at *
                clear hsm
                have OH7 := Lib.hid (((OH.out).drewN 1).stored j z)
                rw [hset.out] at OH7
                have hne : g ≠ gh := fun e => by have := ((OS.out).lt g rfl).1; have := hgh4.out; omega
                have OS7 := Lib.hid (((OS.out).drewN 1).kept (grownBy_setCell (wr.drewN 1) ⟨gh, j, none⟩ (.int .u64 z)) (Or.inr (fun e => hne (Option.some.inj e))))
                have G7 := Lib.hid (grownBy_trans (grownBy_trans G.out (grownBy_drewN wr 1 (some gh))) (grownBy_setCell (wr.drewN 1) ⟨gh, j, none⟩ (.int .u64 z)))
                have e1 : wr.drewN 1 = wr.drew := rfl
                rw [e1] at OH7 OS7 G7
                have ch2 : wr.drew.cell? ⟨gh, j, none⟩ = some (.int .u64 xs) := ch1
                have zf2 : wr.drew.frozen? ⟨gh, j, none⟩ = false := zf
                clear OH OS G hset e1
                go_wp2
                go_still_tail 13, (by kernel_rfl)
                change wpList _ _ _ _ _ wr.drew
                clear ch1 cs1 zf
                generalize wr.drew = w8 at *
                go_wp2
                go_roundw
                case rel => exact ⟨j + 1, by omega, by go_num, OH7, OS7, G7⟩
                case measure => (simp [intOf]; try omega)
            · obtain rfl : j = 8 := by omega
              have hd3 : decide (((8 : Nat) : Int) < 8) = false := by decide
              rw [← HNX.out] at OH
              have hgs := (G.out).size
              have ngk : gk ≠ gh := by have := HGK.out; have := HGH.out; omega
              have OK7 := Lib.hid ((OK6.out).kept G.out (Or.inr (fun e => ngk (Option.some.inj e))))
              have OM7 := Lib.hid ((OM6.out).kept G.out (Or.inr (fun e => by have h2 := ((OM6.out).lt gh e).1; have := HGH.out; have := HZ.out; omega)))
              have B7 := Lib.hid ((B6.out).grown G.out (B6.out).size (fun k hk => by cases hk; exact HGH.out.1))
              have Z7 : Hid (w3.heap.size ≤ wr.heap.size) := Lib.hid (Nat.le_trans Z6.out.1 hgs)
              rw [show ((8 : Nat) : Int) = 8 from rfl] at hd3 ⊢
              clear OS G OK6 OM6 B6
              go_wp2
              go_roundw
              case rel => exact ⟨k + 1, q + 64, by omega, Lib.hid (by have := HQ.out; omega), by go_num, OH, OK7, OM7, B7, Z7⟩
              case measure => (simp [intOf]; try omega)
    · obtain rfl : k = p := by omega
      have hqn : q = n := by have := HQ.out; have := HN.out; omega
      subst hqn
      have hd : decide ((q : Int) < (q : Int)) = false := by simp
      have okf := Lib.hid (list_wrd (runs_ok hon_ok M k))
      have HFD : Hid (digest l = (runs hon M k).list.flatMap fun n => w4 (n : Nat)) := Lib.hid HD.out
      have OF : Hid (Own wr wr.heap.size (.slice none 0 0) (((runs hon M k).list.take 0).flatMap fun n => w4 (n : Nat))) := Lib.hid (Own.nil _ _)
      have hll : Hid ((runs hon M k).list.length = 8) := Lib.hid rfl
      have hghR : Hid (gh < wr.heap.size) := Lib.hid (by have := HGH.out; have := HZ.out; have := Z.out; omega)
      generalize (runs hon M k).list = L at *
      clear OK OM Z
      have hzw := Lib.hid (B.out).size
      generalize hw5 : wr = w5 at *
      have BR := Lib.hid (Nat.le_refl w5.heap.size)
      go_wp2
      go_loopw [17, 18] (fun x i wr => ∃ (j nn : Nat) (a : Option Addr) (c : Nat), j ≤ 8 ∧ x = .slice a nn c ∧ i = .int .i64 (j : Nat) ∧ Hid (Own wr w5.heap.size (.slice a nn c) ((L.take j).flatMap fun n => w4 (n : Nat))) ∧ Hid (OwnQ wr w.heap.size (.slice (some ⟨gh, 0, none⟩) 8 ch) L) ∧ Hid (Below w.heap.size w wr) ∧ Hid (w5.heap.size ≤ wr.heap.size)) (fun _ i _ => 8 - (intOf i).toNat)
      case atStart => exact ⟨0, 0, none, 0, Nat.zero_le _, rfl, rfl, OF, OH, B, BR⟩
      case round =>
        clear OF OH B BR
        obtain ⟨j, nn, a, c, hj, rfl, rfl, OF, OH, B, Z⟩ := hrel
        by_cases hlt3 : j < 8
        · as_aux_lemma =>
            have hd3 : decide ((j : Int) < 8) = true := by simp; omega
            have j8 : (j : Int) < 8 := by omega
            have hz := Z.out
            obtain ⟨gx, cx, hsx, -, -, -, cellx⟩ := (OH.out).pos (by rw [hll.out]; decide)
            rw [hll.out] at hsx cellx
            injection hsx with hax h8 hcx
            injection hax with hax
            injection hax with hax _ _
            clear h8 hcx
            subst hax
            have ch1 : wr.cell? ⟨gh, j, none⟩ = some (.int .u64 (wth L j : Nat)) := cellx j hlt3
            have lx := (okf.out).wth j
            have HT : Hid (((L.take (j + 1)).flatMap fun n => w4 (n : Nat)) = ((L.take j).flatMap fun n => w4 (n : Nat)) ++ w4 ((wth L j : Nat) : Int)) := Lib.hid (by
              have hjl : j < L.length := by rw [hll.out]; exact hlt3
              rw [List.take_succ_eq_append_getElem hjl, List.flatMap_append, wth_of hjl]
              simp)
            have hnn : nn = ((L.take j).flatMap fun n => w4 ((n : Nat) : Int)).length := by
              obtain ⟨_, _, e, _⟩ := (OF.out).bs
              injection e
            have hlen : ((L.take j).flatMap fun n => w4 ((n : Nat) : Int)).length ≤ 32 := by
              rw [List.length_flatMap]
              have : ((L.take j).map fun n => (w4 ((n : Nat) : Int)).length) = List.replicate (L.take j).length 4 := by
                rw [List.eq_replicate_iff]
                refine ⟨by simp, fun b hb => ?_⟩
                simp only [List.mem_map] at hb
                obtain ⟨n, _, rfl⟩ := hb
                rfl
              rw [this]
              simp
              omega
            generalize ((L.take j).flatMap fun n => w4 ((n : Nat) : Int)) = XS at *
            clear cellx
            generalize wth L j = x at *
            obtain ⟨y0, hy0⟩ : ∃ y : Int, y = (x : Int) / 16777216 % 256 := ⟨_, rfl⟩
            obtain ⟨y1, hy1⟩ : ∃ y : Int, y = (x : Int) / 65536 % 256 := ⟨_, rfl⟩
            obtain ⟨y2, hy2⟩ : ∃ y : Int, y = (x : Int) / 256 % 256 := ⟨_, rfl⟩
            obtain ⟨y3, hy3⟩ : ∃ y : Int, y = (x : Int) % 256 := ⟨_, rfl⟩
            have f0 : IntKind.u8.wrap ((x : Int) / 16777216) = y0 := by rw [IntKind.wrap_u8, hy0]
            have f1 : IntKind.u8.wrap ((x : Int) / 65536) = y1 := by rw [IntKind.wrap_u8, hy1]
            have f2 : IntKind.u8.wrap ((x : Int) / 256) = y2 := by rw [IntKind.wrap_u8, hy2]
            have f3 : IntKind.u8.wrap (x : Int) = y3 := by rw [IntKind.wrap_u8, hy3]
            have hw4 : w4 (x : Int) = [y0, y1, y2, y3] := by rw [hy0, hy1, hy2, hy3]; rfl
            rw [hw4] at HT
            clear hy0 hy1 hy2 hy3 hw4
            have hz5 : w.heap.size ≤ wr.heap.size := (B.out).size
            have D0 : Hid (wr.drew.cell? ⟨gh, j, none⟩ = some (.int .u64 x)) := Lib.hid ch1
            have D1 : Hid ((wr.alloc (.cells #[.int .u8 y0, .int .u8 y1, .int .u8 y2, .int .u8 y3] 5)).drew.cell? ⟨gh, j, none⟩ = some (.int .u64 x)) := Lib.hid (cellA (w := wr) ch1)
            have O5 : Own (wr.alloc (.cells #[.int .u8 y0, .int .u8 y1, .int .u8 y2, .int .u8 y3] 5)).drew w5.heap.size (.slice a nn c) XS := ((OF.out).alloc (.cells #[.int .u8 y0, .int .u8 y1, .int .u8 y2, .int .u8 y3] 5)).drewN 1
            have L5 : Bs (wr.alloc (.cells #[.int .u8 y0, .int .u8 y1, .int .u8 y2, .int .u8 y3] 5)).drew (.slice (some ⟨wr.heap.size, 0, none⟩) 4 4) [y0, y1, y2, y3] := (bs_list wr [y0, y1, y2, y3] (by simp)).drewN 1
            have H5 := Lib.hid (((OH.out).alloc (.cells #[.int .u8 y0, .int .u8 y1, .int .u8 y2, .int .u8 y3] 5)).drewN 1)
            have B5 := Lib.hid (((B.out).trans ((alloc_below wr (.cells #[.int .u8 y0, .int .u8 y1, .int .u8 y2, .int .u8 y3] 5)).mono hz5)).trans (((Still.refl (wr.alloc (.cells #[.int .u8 y0, .int .u8 y1, .int .u8 y2, .int .u8 y3] 5))).drewN 1).below _))
            have DK : Hid (∀ w'', (wr.alloc (.cells #[.int .u8 y0, .int .u8 y1, .int .u8 y2, .int .u8 y3] 5)).drew.grownBy w'' (Value.slice a nn c).ownBlock → w''.cell? ⟨gh, j, none⟩ = some (.int .u64 x)) := Lib.hid (fun w'' hg => hg.cell (a := ⟨gh, j, none⟩) D1.out (fun e => by have := (O5.lt gh e.symm).1; have := hghR.out; omega))
            have O5 := Lib.hid O5
            have L5 := Lib.hid L5
            have hpp : Hid (XS.length + [y0, y1, y2, y3].length = nn + 4) := Lib.hid (by rw [hnn]; rfl)
            have hll5 : Hid (nn + 4 ≤ 140737488355328) := Lib.hid (by omega)
            have hzz : Hid (w5.heap.size ≤ (wr.alloc (.cells #[.int .u8 y0, .int .u8 y1, .int .u8 y2, .int .u8 y3] 5)).drew.heap.size) := Lib.hid (by simp; omega)
            clear OF OH B hnn hlen
            go_wp2
            go_region_held3 (fun w' => w'.cell? ⟨gh, j, none⟩ = some (.int .u64 x)) (first | (with_reducible assumption) | (with_reducible exact D0.out) | (with_reducible exact D1.out) | (with_reducible exact (DK.out) _ hgx)) (first
              | ((with_reducible refine step_append_bs ?hgd (.tmp 150) (.tmp 174) ?ho w5.heap.size _ XS ?hs (O5.out) _ [y0, y1, y2, y3] ?hx (L5.out) ?hp (nn + 4) hpp.out hll5.out hzz.out ?hk); (case hgd => rfl); (case ho => rfl); (case hs => rfl); (case hx => rfl); (case hp => simp); intro ax cx wx hox hgx))
            rw [← HT.out] at hox
            have OF6 := Lib.hid hox
            have nb : (Value.slice a nn c).ownBlock ≠ some gh := fun e => by have := ((O5.out).lt gh e).1; have := hghR.out; omega
            have OH6 := Lib.hid ((H5.out).kept hgx (Or.inr (fun e => nb e.symm)))
            have B6 := Lib.hid ((B5.out).grown hgx (Nat.le_trans hzw.out hzz.out) (fun k hk => Nat.le_trans hzw.out ((O5.out).lt k hk).1))
            have Z6 := Lib.hid (Nat.le_trans hzz.out hgx.size)
            clear hox hgx
            go_wp2
            go_roundw
            case rel => exact ⟨j + 1, nn + 4, ax, cx, by omega, rfl, by go_num, OF6, OH6, B6, Z6⟩
            case measure => (simp [intOf]; try omega)
        · obtain rfl : j = 8 := by omega
          have hd3 : decide (((8 : Nat) : Int) < 8) = false := by decide
          have OF2 : Hid (Own wr w5.heap.size (.slice a nn c) (digest l)) := Lib.hid (by
            have := OF.out
            rw [List.take_of_length_le (by rw [hll.out]; exact Nat.le_refl _), ← HFD.out] at this
            exact this)
          rw [show ((8 : Nat) : Int) = 8 from rfl] at hd3 ⊢
          clear OF
          go_wp2
          go_ret
          exact ⟨_, rfl, (OF2.out).mono hzw.out, B.out⟩
end Go.Proofs.YtknkmblacaaegaaDoor
