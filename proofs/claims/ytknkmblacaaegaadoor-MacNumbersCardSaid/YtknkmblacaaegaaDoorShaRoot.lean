/- Contracts of the document's comparison, root and roots. -/
import Derived.Test.YtknkmblacaaegaaDoorShaTimes
namespace Go.Proofs.YtknkmblacaaegaaDoor
open Go.RowKit
set_option linter.unusedVariables false
set_option linter.unusedSimpArgs false
set_option maxRecDepth 100000

/-- e returns v; nothing that was there has turned. -/
def Gives2 (v : Value) (w : World) (e : Ending) (w' : World) : Prop := e = .returned v ∧ Below w.heap.size w w'
theorem wth_past {l : List Nat} {j : Nat} (h : l.length ≤ j) : wth l j = 0 := by unfold wth; simp [List.getD, h]
set_option maxHeartbeats 2000000 in
theorem above (va vb : Value) (la lb : List Nat) (w : World) (ha : Qs w va la) (hb : Qs w vb lb) (ha1 : 0 < la.length) (hb1 : 0 < lb.length) (ha2 : la.length ≤ 100) (hb2 : lb.length ≤ 100) :
    Calls Tryd.prog 91 #[va, vb] w fun e w' => w = w' ∧ e = .returned (.bool (abv la lb (max la.length lb.length))) := by
  obtain ⟨ba, oa, ca, hsa, -, -, hla, cella⟩ := ha.at ha1
  obtain ⟨bb, ob, cb, hsb, -, -, hlb, cellb⟩ := hb.at hb1
  subst hsa hsb
  have CA := Lib.hid cella
  have CB := Lib.hid cellb
  clear ha hb cella cellb hla hlb
  generalize hna : la.length = na at *
  generalize hnb : lb.length = nb at *
  have HNA := Lib.hid hna
  have HNB := Lib.hid hnb
  clear hna hnb
  obtain ⟨n, hn⟩ : ∃ n, n = max na nb := ⟨_, rfl⟩
  have hif : (if na < nb then ((nb : Nat) : Int) else (na : Int)) = (n : Int) := by split <;> omega
  have hif2 : (if (na : Int) < (nb : Int) then ((nb : Nat) : Int) else (na : Int)) = (n : Int) := by split <;> omega
  have hn1 : 0 < n := by omega
  have hn2 : n ≤ 100 := by omega
  rw [← hn]
  have HN := Lib.hid hn
  clear hn
  go_enter Tryd.func91, Tryd.ntmps91
  go_wp2
  go_loop [5] (fun i => ∃ j : Nat, j ≤ n ∧ i = .int .i64 ((j : Int) - 1) ∧ Hid (abv la lb j = abv la lb n)) (fun i => (intOf i + 1).toNat)
  case atStart => exact ⟨n, Nat.le_refl _, rfl, Lib.hid rfl⟩
  case round =>
    obtain ⟨j, hj, rfl, HA⟩ := hrel
    cases j with
    | zero =>
      have hd : decide ((0 : Int) ≤ ((0 : Nat) : Int) - 1) = false := by decide
      have HA2 : Hid (abv la lb n = false) := Lib.hid (HA.out).symm
      rw [show ((0 : Nat) : Int) - 1 = -1 from rfl] at hd ⊢
      go_wp2
      go_ret
      exact ⟨rfl, ret_bool (HA2.out).symm⟩
    | succ k =>
      rw [show ((k + 1 : Nat) : Int) - 1 = (k : Int) from by omega]
      have hd : decide ((0 : Int) ≤ (k : Int)) = true := by simp
      have HS : Hid (abv la lb (k + 1) = if wth la k = wth lb k then abv la lb k else decide (wth lb k < wth la k)) := Lib.hid rfl
      have XA : Hid (k < na → w.cell? ⟨ba, oa + k, none⟩ = some (.int .u64 (wth la k : Nat))) := Lib.hid (fun h => (CA.out) k (by have := HNA.out; omega))
      have XB : Hid (k < nb → w.cell? ⟨bb, ob + k, none⟩ = some (.int .u64 (wth lb k : Nat))) := Lib.hid (fun h => (CB.out) k (by have := HNB.out; omega))
      have YA : Hid (¬ k < na → wth la k = 0) := Lib.hid (fun h => wth_past (by have := HNA.out; omega))
      have YB : Hid (¬ k < nb → wth lb k = 0) := Lib.hid (fun h => wth_past (by have := HNB.out; omega))
      generalize wth la k = x at *
      generalize wth lb k = y at *
      by_cases hka : k < na
      · have hda : decide ((k : Int) < (na : Int)) = true := by simp; omega
        have ka : (k : Int) < (na : Int) := by omega
        have cka := (XA.out) hka
        by_cases hkb : k < nb
        · have hdb : decide ((k : Int) < (nb : Int)) = true := by simp; omega
          have kb : (k : Int) < (nb : Int) := by omega
          have ckb := (XB.out) hkb
          by_cases hxy : x = y
          · subst hxy
            have HA2 : Hid (abv la lb k = abv la lb n) := Lib.hid (by rw [← HA.out, HS.out, if_pos rfl])
            go_wp2
            go_round
            case rel => exact ⟨k, by omega, by go_num, HA2⟩
            case measure => (simp [intOf]; try omega)
          · have hbe : ((x : Int) != (y : Int)) = true := by simp; omega
            have HA2 : Hid (abv la lb n = decide (y < x)) := Lib.hid (by rw [← HA.out, HS.out, if_neg hxy])
            go_wp2
            go_ret
            refine ⟨rfl, ret_bool ?_⟩
            rw [HA2.out]
            try simp
            try omega
        · have hdb : decide ((k : Int) < (nb : Int)) = false := by simp; omega
          have y0 := (YB.out) hkb
          subst y0
          by_cases hxy : x = 0
          · subst hxy
            have HA2 : Hid (abv la lb k = abv la lb n) := Lib.hid (by rw [← HA.out, HS.out, if_pos rfl])
            go_wp2
            go_round
            case rel => exact ⟨k, by omega, by go_num, HA2⟩
            case measure => (simp [intOf]; try omega)
          · have hbe : ((x : Int) != 0) = true := by simp; omega
            have HA2 : Hid (abv la lb n = decide (0 < x)) := Lib.hid (by rw [← HA.out, HS.out, if_neg hxy])
            go_wp2
            go_ret
            refine ⟨rfl, ret_bool ?_⟩
            rw [HA2.out]
            try simp
            try omega
      · have hda : decide ((k : Int) < (na : Int)) = false := by simp; omega
        have x0 := (YA.out) hka
        subst x0
        by_cases hkb : k < nb
        · have hdb : decide ((k : Int) < (nb : Int)) = true := by simp; omega
          have kb : (k : Int) < (nb : Int) := by omega
          have ckb := (XB.out) hkb
          by_cases hxy : 0 = y
          · subst hxy
            have HA2 : Hid (abv la lb k = abv la lb n) := Lib.hid (by rw [← HA.out, HS.out, if_pos rfl])
            go_wp2
            go_round
            case rel => exact ⟨k, by omega, by go_num, HA2⟩
            case measure => (simp [intOf]; try omega)
          · have hbe : ((0 : Int) != (y : Int)) = true := by simp; omega
            have HA2 : Hid (abv la lb n = decide (y < 0)) := Lib.hid (by rw [← HA.out, HS.out, if_neg hxy])
            go_wp2
            go_ret
            refine ⟨rfl, ret_bool ?_⟩
            rw [HA2.out]
            try simp
            try omega
        · exfalso
          have := HN.out
          omega

theorem or_bit {x k : Nat} (hx : x < 137438953472) (hk : k ≤ 36) : bits .or .u64 (x : Int) ((2 ^ k : Nat) : Int) = ((x ||| 2 ^ k : Nat) : Int) ∧ x ||| 2 ^ k < 137438953472 := by
  have h2 : 2 ^ k ≤ 68719476736 := Nat.pow_le_pow_right (n := 2) (by decide) (show k ≤ 36 by omega)
  exact ⟨Go.u64_or_nat _ _ (by omega) (by omega), Nat.or_lt_two_pow (n := 37) hx (by omega)⟩
set_option maxHeartbeats 2000000 in
theorem root (p power : Nat) (w : World) (hp : p < 4294967296) (hpow : power = 2 ∨ power = 3) :
    Calls Tryd.prog 62 #[.int .u64 p, .int .i64 power] w (Gives2 (.int .u64 (rootOf p power : Nat)) w) := by
  obtain ⟨i64, hi, hz, hs1, hb1'⟩ := u64info
  have HI := Lib.hid hi
  have HZ := Lib.hid hz
  have HS1 := Lib.hid hs1
  have HB8 := Lib.hid hb1'
  have HP := Lib.hid hpow
  have hp3 : power ≤ 3 := by omega
  have hp2 : 2 ≤ power := by omega
  clear hi hz hs1 hb1' hpow
  go_enter Tryd.func62, Tryd.ntmps62
  go_wp2_with (at_make; refine wpList_make_full _ rfl _ _ 75 rfl w.heap.size 71 i64 (.int .u64 0) 1 Tryd.underlying75 HI.out HZ.out HS1.out _ _ _ _ power rfl rfl (by omega) (by omega) (by rw [HB8.out]; omega) (by unfold maxLen; omega) (Nat.le_refl _) ?_)
  intro w1 how hgw
  have O1 := Lib.hid ((madeq how).alloc (.cells #[.int .u64 p] 71))
  have L1 := Lib.hid ((ownq_lit w1 0 (Nat.zero_le _) [p] (by simp)).qs)
  have hz1 : w.heap.size ≤ w1.heap.size := hgw.size
  have B1 := Lib.hid (((Below.refl w.heap.size w).grown hgw (Nat.le_refl _) (fun k hk => by cases hk)).trans ((alloc_below w1 (.cells #[.int .u64 p] 71)).mono hz1))
  clear how hgw
  go_wp2_with (at_builtin; refine wpList_append_q _ rfl _ _ rfl w.heap.size _ (List.replicate power 0) rfl O1.out _ [p] rfl L1.out (by simp) (by simp; omega) (by simp; omega) ?_)
  intro v2 w2 ho2 hg2
  have B2 := Lib.hid ((B1.out).grown hg2 (by simp; omega) (fun k hk => ((O1.out).lt k hk).1))
  have HGL : Hid ((goalOf p power).length = power + 1) := Lib.hid (by simp [goalOf])
  have O2 : OwnQ w2 w.heap.size v2 (goalOf p power) := ho2
  obtain ⟨a2, c2, hs2⟩ := O2.qs.shape
  rw [HGL.out] at hs2
  subst hs2
  have O2 := Lib.hid O2
  clear ho2 hg2 O1 B1 L1
  have Z0 : Hid (0 = rt p power 0) := Lib.hid rfl
  go_wp2
  go_loopw [6, 7] (fun x i wr => ∃ (s y : Nat), s ≤ 37 ∧ x = .int .u64 y ∧ i = .int .i64 (36 - (s : Int)) ∧ Hid (y = rt p power s) ∧ Hid (OwnQ wr w.heap.size (.slice a2 (power + 1) c2) (goalOf p power)) ∧ Hid (Below w.heap.size w wr)) (fun _ i _ => (intOf i + 1).toNat)
  case atStart => exact ⟨0, 0, Nat.zero_le _, rfl, rfl, Z0, O2, B2⟩
  case round =>
    clear Z0 O2 B2
    obtain ⟨s, y, hs, rfl, rfl, HY, O, B⟩ := hrel
    have ylt : y < 137438953472 := by rw [HY.out]; exact rt_lt p power s
    by_cases hlt : s < 37
    · obtain ⟨k, hk⟩ : ∃ k, k = 36 - s := ⟨_, rfl⟩
      have ek : 36 - (s : Int) = (k : Int) := by omega
      rw [ek]
      have hd : decide ((0 : Int) ≤ (k : Int)) = true := by simp
      obtain ⟨eor, tlt⟩ := or_bit ylt (show k ≤ 36 by omega)
      have HN : Hid (rt p power (s + 1) = if abv (pw (y ||| 2 ^ k) (power - 1)) (goalOf p power) (max (pw (y ||| 2 ^ k) (power - 1)).length (goalOf p power).length) = true then y else y ||| 2 ^ k) := Lib.hid (by rw [HY.out, hk]; rfl)
      have hk36 : k ≤ 36 := by omega
      have h2lt : 2 ^ k < 18446744073709551616 := Nat.lt_of_le_of_lt (Nat.pow_le_pow_right (n := 2) (by decide) hk36) (by decide)
      generalize y ||| 2 ^ k = t at *
      have HK := Lib.hid hk
      obtain ⟨bt, hbt⟩ : ∃ bt : Nat, bt = 2 ^ k := ⟨_, rfl⟩
      have ew : IntKind.u64.wrap ((2 : Int) ^ k) = (bt : Int) := by
        rw [IntKind.wrap_u64, hbt, show ((2 : Int) ^ k) = ((2 ^ k : Nat) : Int) from by simp]
        omega
      rw [← hbt] at eor
      have em := mask32 (show t < 18446744073709551616 by omega)
      have ed : (t : Int) / 4294967296 = ((t / 4294967296 : Nat) : Int) := by omega
      have HPW : Hid (two t = [t % 4294967296, t / 4294967296]) := Lib.hid rfl
      have L1 := Lib.hid ((ownq_lit wr 0 (Nat.zero_le _) [t % 4294967296, t / 4294967296] (by simp)).qs)
      have hz : w.heap.size ≤ wr.heap.size := (B.out).size
      have B1 := Lib.hid ((B.out).trans ((alloc_below wr (.cells #[.int .u64 (t % 4294967296 : Nat), .int .u64 (t / 4294967296 : Nat)] 71)).mono hz))
      have O1 := Lib.hid ((O.out).alloc (.cells #[.int .u64 (t % 4294967296 : Nat), .int .u64 (t / 4294967296 : Nat)] 71))
      have WT := Lib.hid (two_wrd tlt)
      rw [HPW.out] at WT
      have HPZ : Hid (pw t 0 = [t % 4294967296, t / 4294967296]) := Lib.hid rfl
      have HPS : Hid (∀ i, pw t (i + 1) = tim (pw t i) [t % 4294967296, t / 4294967296]) := Lib.hid (fun i => rfl)
      clear hk hbt h2lt HPW O B
      generalize t % 4294967296 = tl at *
      generalize t / 4294967296 = th at *
      have hA : wr.heap.size < (wr.alloc (.cells #[.int .u64 tl, .int .u64 th] 71)).heap.size := by simp
      generalize hW : wr.alloc (.cells #[.int .u64 tl, .int .u64 th] 71) = w3 at *
      go_wp2
      have L2 : Qs w3 (.slice (some ⟨wr.heap.size, 0, none⟩) 2 2) [tl, th] := by have := L1.out; rw [show (qv [tl, th]).toArray = #[.int .u64 (tl : Nat), .int .u64 (th : Nat)] from rfl, hW] at this; exact this
      have L2 := Lib.hid L2
      clear hW L1 hA
      have P0 : Hid (Qs w3 (.slice (some ⟨wr.heap.size, 0, none⟩) 2 2) (pw t 0)) := Lib.hid (by rw [HPZ.out]; exact L2.out)
      generalize wr.heap.size = G at *
      go_loopw [10, 11] (fun x i wx => ∃ (j n : Nat) (a : Option Addr) (c : Nat), j + 1 ≤ power ∧ x = .slice a n c ∧ i = .int .i64 ((j + 1 : Nat) : Int) ∧ Hid (n = 2 * j + 2) ∧ Hid (Qs wx (.slice a n c) (pw t j)) ∧ Hid (Qs wx (.slice (some ⟨G, 0, none⟩) 2 2) [tl, th]) ∧ Hid (OwnQ wx w.heap.size (.slice a2 (power + 1) c2) (goalOf p power)) ∧ Hid (Below w.heap.size w wx)) (fun _ i _ => power - (intOf i).toNat)
      case atStart => exact ⟨0, 2, _, _, by omega, rfl, rfl, Lib.hid rfl, P0, L2, O1, B1⟩
      case round =>
        clear P0 L2 O1 B1
        obtain ⟨j, n, a, c, hj, rfl, rfl, HNj, P, L, O, B⟩ := hrel
        have hPL : (pw t j).length = n := by rw [pw_length, HNj.out]
        by_cases hlt2 : j + 1 < power
        · have hd2 : decide (((j + 1 : Nat) : Int) < (power : Int)) = true := by simp; omega
          have hn6 : n ≤ 6 := by have := HNj.out; omega
          have TM := Lib.hid (times (.slice a n c) (.slice (some ⟨G, 0, none⟩) 2 2) (pw t j) [tl, th] wr P.out L.out (pw_wrd tlt j) WT.out (by rw [hPL]; have := HNj.out; omega) (by simp) (by rw [hPL]; omega) (by simp))
          rw [← (HPS.out) j, hPL] at TM
          clear hPL
          obtain ⟨j1, hj1⟩ : ∃ j1, j1 = j + 1 := ⟨_, rfl⟩
          rw [← hj1] at hd2 hlt2 hj TM ⊢
          have HJ1 := Lib.hid hj1
          clear hj1
          go_wp2_with fail
          refine (TM.out).mono ?_; rintro e4 w4 ⟨a4, c4, rfl, ho4, hb4⟩
          have hz4 := (B.out).size
          have P4 := Lib.hid ho4.qs
          have L4 := Lib.hid ((L.out).past hb4)
          have O4 := Lib.hid ((O.out).past hb4)
          have B4 := Lib.hid (bel_past B.out hb4)
          clear ho4 hb4 P L O B TM
          have e2 : n + [tl, th].length = n + 2 := rfl
          rw [e2] at P4 ⊢
          go_wp2
          go_roundw
          case rel => exact ⟨j1, n + 2, a4, c4, by omega, rfl, by go_num, Lib.hid (by have := HNj.out; have := HJ1.out; omega), P4, L4, O4, B4⟩
          case measure => (simp [intOf]; try omega)
        · have hd2 : decide (((j + 1 : Nat) : Int) < (power : Int)) = false := by simp; omega
          have hjp : j = power - 1 := by omega
          have hn6 : n ≤ 6 := by have := HNj.out; omega
          have AB := Lib.hid (above (.slice a n c) (.slice a2 (power + 1) c2) (pw t j) (goalOf p power) wr P.out (O.out).qs (by rw [hPL]; have := HNj.out; omega) (by rw [HGL.out]; omega) (by rw [hPL]; omega) (by rw [HGL.out]; omega))
          rw [← hjp] at HN
          generalize hab : abv (pw t j) (goalOf p power) (max (pw t j).length (goalOf p power).length) = ab at *
          clear hab hPL P L hjp
          rw [show ((j + 1 : Nat) : Int) = (power : Int) from by omega] at hd2 ⊢
          cases ab with
          | true =>
            have HN2 : Hid (y = rt p power (s + 1)) := Lib.hid (by rw [HN.out, if_pos rfl])
            go_wp2_with fail
            refine (AB.out).mono ?_; rintro e4 w4 ⟨rfl, rfl⟩
            go_wp2
            go_roundw
            case rel => exact ⟨s + 1, y, by omega, rfl, by rw [show (36 : Int) - ((s + 1 : Nat) : Int) = (k : Int) - 1 from by have := HK.out; omega], HN2, O, B⟩
            case measure => (simp [intOf]; try omega)
          | false =>
            have HN2 : Hid (t = rt p power (s + 1)) := Lib.hid (by rw [HN.out, if_neg (by decide)])
            go_wp2_with fail
            refine (AB.out).mono ?_; rintro e4 w4 ⟨rfl, rfl⟩
            go_wp2
            go_roundw
            case rel => exact ⟨s + 1, t, by omega, rfl, by rw [show (36 : Int) - ((s + 1 : Nat) : Int) = (k : Int) - 1 from by have := HK.out; omega], HN2, O, B⟩
            case measure => (simp [intOf]; try omega)
    · obtain rfl : s = 37 := by omega
      have hd : decide ((0 : Int) ≤ 36 - ((37 : Nat) : Int)) = false := by decide
      rw [show (36 : Int) - ((37 : Nat) : Int) = -1 from rfl] at hd ⊢
      have em := mask32 (show y < 18446744073709551616 by omega)
      have HR : Hid (rootOf p power = y % 4294967296) := Lib.hid (by rw [HY.out]; rfl)
      generalize y % 4294967296 = z at *
      go_wp2
      go_ret
      exact ⟨ret_u64 (by rw [HR.out]), B.out⟩
end Go.Proofs.YtknkmblacaaegaaDoor
