/- Contracts of the document's great numbers: is a number a prime, one by another, is one above another. -/
import Derived.Test.YtknkmblacaaegaaDoorShaQs
import Derived.Test.YtknkmblacaaegaaDoorShaRtMath
namespace Go.Proofs.YtknkmblacaaegaaDoor
open Go.RowKit
set_option linter.unusedVariables false
set_option linter.unusedSimpArgs false
set_option maxRecDepth 100000

theorem prOk_no {n k : Nat} (h2 : 2 ≤ k) (hk : k < 18) (hkk : k * k ≤ n) (hd : n % k = 0) : prOk n = false := by
  unfold prOk
  rw [Bool.and_eq_false_iff]
  right
  rw [List.all_eq_false]
  exact ⟨k, List.mem_range.2 hk, by simp [hd]; omega⟩
theorem prOk_yes {n k : Nat} (hk : n < k * k) (hall : ∀ j, 2 ≤ j → j < k → n % j ≠ 0) : prOk n = decide (1 < n) := by
  unfold prOk
  have : ((List.range 18).all fun k => decide (k < 2) || decide (n < k * k) || decide (n % k ≠ 0)) = true := by
    rw [List.all_eq_true]
    intro j hj
    by_cases h2 : j < 2
    · simp [h2]
    · by_cases hjk : j < k
      · simp [hall j (by omega) hjk]
      · have : k * k ≤ j * j := Nat.mul_le_mul (by omega) (by omega)
        have : n < j * j := by omega
        simp [this]
  rw [this, Bool.and_true]

set_option maxHeartbeats 1000000 in
theorem prime (n : Nat) (w : World) (hn : n ≤ 312) :
    Calls Tryd.prog 61 #[.int .u64 n] w fun e w' => w = w' ∧ e = .returned (.bool (prOk n)) := by
  go_enter Tryd.func61, Tryd.ntmps61
  go_wp2
  go_loop [3] (fun i => ∃ k : Nat, 2 ≤ k ∧ k ≤ 18 ∧ i = .int .u64 k ∧ Hid (∀ j, 2 ≤ j → j < k → n % j ≠ 0)) (fun i => 20 - (intOf i).toNat)
  case atStart => exact ⟨2, by omega, by omega, rfl, Lib.hid (fun j h1 h2 => by omega)⟩
  case round =>
    obtain ⟨k, h2, h18, rfl, HA⟩ := hrel
    have hkk : k * k ≤ 18 * 18 := Nat.mul_le_mul h18 h18
    have YES := Lib.hid (fun h => prOk_yes (n := n) (k := k) h HA.out)
    have NO := Lib.hid (fun a b c => prOk_no (n := n) (k := k) h2 a b c)
    have h17 : k * k ≤ 312 → k ≤ 17 := fun h => by
      by_cases hk : k = 18
      · subst hk; omega
      · omega
    have em : (k : Int) * (k : Int) = ((k * k : Nat) : Int) := by simp
    generalize hq : k * k = q at *
    clear hq
    by_cases hle : q ≤ n
    · have hd : decide ((q : Int) ≤ (n : Int)) = true := by simp; omega
      have hk17 := h17 (by omega)
      by_cases hdiv : n % k = 0
      · have em2 : (n : Int) % (k : Int) = 0 := by omega
        have hp := (NO.out) (by omega) hle hdiv
        go_wp2
        go_ret
        exact ⟨rfl, rfl⟩
      · have em3 : ((n : Int) % (k : Int) == 0) = false := by simp; omega
        have hk1 : Hid (∀ j, 2 ≤ j → j < k + 1 → n % j ≠ 0) := Lib.hid (fun j a b => by
          by_cases hj : j = k
          · subst hj; exact hdiv
          · exact HA.out j a (by omega))
        go_wp2
        go_round
        case rel => exact ⟨k + 1, by omega, by omega, by go_num, hk1⟩
        case measure => simp [intOf]; omega
    · have hd : decide ((q : Int) ≤ (n : Int)) = false := by simp; omega
      have hp := Lib.hid ((YES.out) (by omega))
      go_wp2
      go_ret
      refine ⟨rfl, ret_bool ?_⟩
      rw [hp.out]
      simp
      omega

set_option maxHeartbeats 2000000 in
theorem times (va vb : Value) (la lb : List Nat) (w : World) (ha : Qs w va la) (hb : Qs w vb lb) (wa : Wrd la) (wb : Wrd lb) (ha1 : 0 < la.length) (hb1 : 0 < lb.length) (ha2 : la.length ≤ 100) (hb2 : lb.length ≤ 100) :
    Calls Tryd.prog 90 #[va, vb] w fun e w' => ShapedQ (la.length + lb.length) (tim la lb) w e w' := by
  obtain ⟨ba, oa, ca, hsa, -, -, hla, cella⟩ := ha.at ha1
  obtain ⟨bb, ob, cb, hsb, -, -, hlb, cellb⟩ := hb.at hb1
  subst hsa hsb
  have HWA := Lib.hid wa
  have HWB := Lib.hid wb
  have CA := Lib.hid cella
  have CB := Lib.hid cellb
  have HLA := Lib.hid hla
  have HLB := Lib.hid hlb
  obtain ⟨i64, hi, hz, hs1, hb1'⟩ := u64info
  have HI := Lib.hid hi
  have HZ := Lib.hid hz
  have HS1 := Lib.hid hs1
  have HB8 := Lib.hid hb1'
  clear ha hb wa wb cella cellb hla hlb hi hz hs1 hb1'
  generalize hna : la.length = na at *
  generalize hnb : lb.length = nb at *
  have HNA := Lib.hid hna
  have HNB := Lib.hid hnb
  clear hna hnb
  go_enter Tryd.func90, Tryd.ntmps90
  go_wp2_with (at_make; refine wpList_make_full _ rfl _ _ 75 rfl w.heap.size 71 i64 (.int .u64 0) 1 Tryd.underlying75 HI.out HZ.out HS1.out _ _ _ _ (na + nb) rfl rfl (by omega) (by omega) (by rw [HB8.out]; omega) (by unfold maxLen; omega) (Nat.le_refl _) ?_)
  intro w1 how hgw
  have O1 : OwnQ w1 w.heap.size (.slice (some ⟨w.heap.size, 0, none⟩) (na + nb) (na + nb)) (outr la lb 0) := by
    have := madeq how
    rw [← HNA.out, ← HNB.out] at this ⊢
    exact this
  have O1 := Lib.hid O1
  have B1 := Lib.hid ((Below.refl w.heap.size w).grown hgw (Nat.le_refl _) (fun k hk => by cases hk))
  clear how hgw
  obtain ⟨R, hR⟩ : ∃ R, R = w.heap.size := ⟨_, rfl⟩
  have HR := Lib.hid hR
  rw [← hR] at O1 B1 ⊢
  have HLA := Lib.hid (show ba < R by rw [hR]; exact HLA.out)
  have HLB := Lib.hid (show bb < R by rw [hR]; exact HLB.out)
  clear hR
  go_wp2
  go_loopw [6] (fun i wr => ∃ k : Nat, k ≤ na ∧ i = .int .i64 k ∧ Hid (OwnQ wr R (.slice (some ⟨R, 0, none⟩) (na + nb) (na + nb)) (outr la lb k)) ∧ Hid (Below R w wr)) (fun i _ => na - (intOf i).toNat)
  case atStart => exact ⟨0, Nat.zero_le _, rfl, O1, B1⟩
  case round =>
    clear O1 B1
    obtain ⟨i, hi, rfl, O, B⟩ := hrel
    by_cases hlt : i < na
    · have hd : decide ((i : Int) < (na : Int)) = true := by simp; omega
      have HL : Hid ((outr la lb i).length = na + nb) := Lib.hid (by rw [outr_length, HNA.out, HNB.out])
      have HO := Lib.hid (outr_wrd HWA.out HWB.out i)
      have HN : Hid (outr la lb (i + 1) = (inn lb (wth la i) i (outr la lb i) nb).1.set (i + nb) (inn lb (wth la i) i (outr la lb i) nb).2) := Lib.hid (by rw [← HNB.out]; rfl)
      have cai : w.cell? ⟨ba, oa + i, none⟩ = some (.int .u64 (wth la i : Nat)) := (CA.out) i (by have := HNA.out; omega)
      have lai := (HWA.out).wth i
      have CAI := Lib.hid cai
      clear cai
      generalize outr la lb i = out at *
      generalize wth la i = ai at *
      go_wp2
      go_loopw [7, 8] (fun ov j wr => ∃ (k v : Nat), k ≤ nb ∧ j = .int .i64 k ∧ ov = .int .u64 v ∧ Hid (v = (inn lb ai i out k).2) ∧ Hid (OwnQ wr R (.slice (some ⟨R, 0, none⟩) (na + nb) (na + nb)) (inn lb ai i out k).1) ∧ Hid (Below R w wr)) (fun _ j _ => nb - (intOf j).toNat)
      case atStart => exact ⟨0, 0, Nat.zero_le _, rfl, rfl, Lib.hid rfl, O, B⟩
      case round =>
        clear O B
        obtain ⟨k, v, hk, rfl, rfl, HV, O, B⟩ := hrel
        by_cases hltk : k < nb
        · have hdk : decide ((k : Int) < (nb : Int)) = true := by simp; omega
          have WP := inn_wrd (i := i) HWB.out lai HO.out k
          have hln : (inn lb ai i out k).1.length = na + nb := by rw [inn_length, HL.out]
          have NX : Hid (inn lb ai i out (k + 1) = ((inn lb ai i out k).1.set (i + k) ((wth (inn lb ai i out k).1 (i + k) + ai * wth lb k + (inn lb ai i out k).2) % 4294967296), (wth (inn lb ai i out k).1 (i + k) + ai * wth lb k + (inn lb ai i out k).2) / 4294967296)) := Lib.hid rfl
          rw [← HV.out] at WP NX
          have cbk : wr.cell? ⟨bb, ob + k, none⟩ = some (.int .u64 (wth lb k : Nat)) := ((B.out).cell (p := ⟨bb, ob + k, none⟩) HLB.out).trans ((CB.out) k (by have := HNB.out; omega))
          have cak : wr.cell? ⟨ba, oa + i, none⟩ = some (.int .u64 ai) := ((B.out).cell (p := ⟨ba, oa + i, none⟩) HLA.out).trans CAI.out
          obtain ⟨g, c, hsh, hgR, -, hfz, cells⟩ := (O.out).pos (by rw [hln]; omega)
          have hgg : g = R := by injection hsh with e _ _; injection e with e; injection e with e _ _; exact e.symm
          subst hgg
          have co : wr.cell? ⟨g, i + k, none⟩ = some (.int .u64 (wth (inn lb ai i out k).1 (i + k) : Nat)) := cells (i + k) (by rw [hln]; omega)
          have z := hfz (i + k)
          have lo := WP.1.wth (i + k)
          have lb' := (HWB.out).wth k
          have lv := WP.2
          have hm := mul_bound lai lb'
          have em : (ai : Int) * ((wth lb k : Nat) : Int) = ((ai * wth lb k : Nat) : Int) := by simp
          clear hsh hfz cells WP hln hgR
          generalize (inn lb ai i out k).1 = o1 at *
          generalize wth o1 (i + k) = ov at *
          generalize wth lb k = bk at *
          generalize ai * bk = m at *
          obtain ⟨x, hx⟩ : ∃ x, x = ov + m + v := ⟨_, rfl⟩
          have ex : (ov : Int) + (m : Int) + (v : Int) = (x : Int) := by omega
          have hxlt : x < 18446744073709551616 := by omega
          have emask := mask32 hxlt
          have ediv : (x : Int) / 4294967296 = ((x / 4294967296 : Nat) : Int) := by omega
          rw [← hx] at NX
          have hhi : x / 4294967296 < 4294967296 := by omega
          obtain ⟨p, hp⟩ : ∃ p, p = i + k := ⟨_, rfl⟩
          have ep : (i : Int) + (k : Int) = (p : Int) := by omega
          have bp : (p : Int) < ((na + nb : Nat) : Int) := by omega
          have bp2 : (p : Int) < (na : Int) + (nb : Int) := by omega
          have bi : (i : Int) < (na : Int) := by omega
          have bk' : (k : Int) < (nb : Int) := by omega
          rw [← hp] at co z NX
          have HO2 := Lib.hid (fun m => ((O.out).drewN m).stored p (x % 4294967296))
          have HB2 := Lib.hid (fun m => ((B.out).trans (((Still.refl wr).drewN m).below g)).setCell (p := ⟨g, p, none⟩) (Nat.le_refl _) (.int .u64 (x % 4294967296 : Nat)))
          clear hx hp O B
          generalize x % 4294967296 = xl at *
          generalize x / 4294967296 = xh at *
          go_wp2
          go_quiet (fail)
          go_wp2
          go_roundw
          case rel => exact ⟨k + 1, xh, by omega, by go_num, rfl, Lib.hid (by rw [NX.out]), Lib.hid (by rw [NX.out]; exact (HO2.out) nq), Lib.hid ((HB2.out) nq)⟩
          case measure => simp [intOf]; omega
        · have hdk : decide ((k : Int) < (nb : Int)) = false := by simp; omega
          obtain rfl : k = nb := by omega
          have WP := inn_wrd (i := i) HWB.out lai HO.out k
          have hln : (inn lb ai i out k).1.length = na + k := by rw [inn_length, HL.out]
          rw [← HV.out] at WP HN
          obtain ⟨g, c, hsh, hgR, -, hfz, cells⟩ := (O.out).pos (by rw [hln]; omega)
          have hgg : g = R := by injection hsh with e _ _; injection e with e; injection e with e _ _; exact e.symm
          subst hgg
          have co : wr.cell? ⟨g, i + k, none⟩ = some (.int .u64 (wth (inn lb ai i out k).1 (i + k) : Nat)) := cells (i + k) (by rw [hln]; omega)
          have z := hfz (i + k)
          clear hsh hfz cells WP hln hgR
          generalize (inn lb ai i out k).1 = o1 at *
          generalize wth o1 (i + k) = ov at *
          obtain ⟨p, hp⟩ : ∃ p, p = i + k := ⟨_, rfl⟩
          have ep : (i : Int) + (k : Int) = (p : Int) := by omega
          have bp2 : (p : Int) < (na : Int) + (k : Int) := by omega
          rw [← hp] at co z HN
          have HO2 := Lib.hid ((O.out).stored p v)
          rw [← HN.out] at HO2
          have HB2 := Lib.hid ((B.out).setCell (p := ⟨g, p, none⟩) (Nat.le_refl _) (.int .u64 (v : Nat)))
          clear hp O B
          go_wp2
          go_roundw
          case rel => exact ⟨i + 1, by omega, by go_num, HO2, HB2⟩
          case measure => simp [intOf]; omega
    · have hd : decide ((i : Int) < (na : Int)) = false := by simp; omega
      obtain rfl : i = na := by omega
      have HT : Hid (tim la lb = outr la lb i) := Lib.hid (by unfold tim; rw [HNA.out])
      go_wp2
      go_ret
      rw [HT.out]
      have hr := HR.out
      refine ⟨_, _, rfl, ?_, ?_⟩
      · rw [← hr]; exact O.out
      · rw [← hr]; exact B.out
end Go.Proofs.YtknkmblacaaegaaDoor
