/- The document's constants: the roots of the first primes. -/
import Derived.Test.YtknkmblacaaegaaDoorShaRoot
namespace Go.Proofs.YtknkmblacaaegaaDoor
open Go.RowKit
set_option linter.unusedVariables false
set_option linter.unusedSimpArgs false
set_option maxRecDepth 100000

set_option maxHeartbeats 2000000 in
theorem roots (n power J : Nat) (w : World) (hpow : power = 2 ∨ power = 3) (hn : n ≤ 64) (hJ : J ≤ 310) (h1 : ∀ j, j < J → cnt j < n) (h2 : cnt J = n) :
    Calls Tryd.prog 31 #[.int .i64 n, .int .i64 power] w fun e w' => ShapedQ n (rts power J) w e w' := by
  have PR := Lib.hid (fun k w hk => prime k w hk)
  have RT := Lib.hid (fun k w hk => root k power w hk hpow)
  have H1 := Lib.hid h1
  have H2 := Lib.hid h2
  have hp3 : power ≤ 3 := by omega
  clear h1 h2 hpow
  have O0 : Hid (OwnQ w w.heap.size (.slice none 0 0) (rts power 0)) := Lib.hid (OwnQ.nil _ _)
  have B0 := Lib.hid (Below.refl w.heap.size w)
  go_enter Tryd.func31, Tryd.ntmps31
  go_wp2
  go_loopw [5, 6] (fun x i wr => ∃ (j m : Nat) (a : Option Addr) (c : Nat), j ≤ J ∧ x = .slice a m c ∧ i = .int .u64 ((2 + j : Nat) : Int) ∧ Hid (m = cnt j) ∧ Hid (OwnQ wr w.heap.size (.slice a m c) (rts power j)) ∧ Hid (Below w.heap.size w wr)) (fun _ i _ => 400 - (intOf i).toNat)
  case atStart => exact ⟨0, 0, none, 0, Nat.zero_le _, rfl, rfl, Lib.hid rfl, O0, B0⟩
  case round =>
    clear O0 B0
    obtain ⟨j, m, a, c, hj, rfl, rfl, HM, O, B⟩ := hrel
    by_cases hlt : j < J
    · have hmn : m < n := by rw [HM.out]; exact H1.out j hlt
      have hd : decide ((m : Int) < (n : Int)) = true := by simp; omega
      have HR : Hid (rts power (j + 1) = if prOk (2 + j) = true then rts power j ++ [rootOf (2 + j) power] else rts power j) := Lib.hid rfl
      have HC : Hid (cnt (j + 1) = if prOk (2 + j) = true then cnt j + 1 else cnt j) := Lib.hid rfl
      have HRL : Hid ((rts power j).length = m) := Lib.hid (by rw [rts_length, HM.out])
      obtain ⟨p, hp⟩ : ∃ p, p = 2 + j := ⟨_, rfl⟩
      rw [← hp] at HR HC ⊢
      have HP := Lib.hid hp
      have hp312 : p ≤ 312 := by omega
      clear hp
      have P1 := Lib.hid ((PR.out) p wr hp312)
      have R1 := Lib.hid ((RT.out) p wr (by omega))
      generalize hpr : prOk p = pr at *
      clear hpr
      cases pr with
      | true =>
        have HR2 : Hid (rts power (j + 1) = rts power j ++ [rootOf p power]) := Lib.hid (by rw [HR.out, if_pos rfl])
        have HC2 : Hid (cnt (j + 1) = m + 1) := Lib.hid (by rw [HC.out, if_pos rfl, HM.out])
        go_wp2_with fail
        refine (P1.out).mono ?_; rintro e4 w4 ⟨rfl, rfl⟩
        go_wp2_with fail
        refine (R1.out).mono ?_; rintro e4 w4 ⟨rfl, hb4⟩
        generalize rootOf p power = z at *
        have hz4 : w.heap.size ≤ w4.heap.size := Nat.le_trans (B.out).size hb4.size
        have O4 := Lib.hid (((O.out).past hb4).alloc (.cells #[.int .u64 z] 71))
        have L4 := Lib.hid ((ownq_lit w4 0 (Nat.zero_le _) [z] (by simp)).qs)
        have B4 := Lib.hid ((bel_past B.out hb4).trans ((alloc_below w4 (.cells #[.int .u64 z] 71)).mono hz4))
        clear hb4 O B P1 R1
        go_wp2_with (at_builtin; refine wpList_append_q _ rfl _ _ rfl w.heap.size _ (rts power j) rfl O4.out _ [z] rfl L4.out (by simp) (by rw [HRL.out]; simp; omega) (by simp; omega) ?_)
        intro v5 w5 ho5 hg5
        have B5 := Lib.hid ((B4.out).grown hg5 (by simp; omega) (fun k hk => ((O4.out).lt k hk).1))
        obtain ⟨a5, c5, hs5⟩ := ho5.qs.shape
        rw [List.length_append, HRL.out] at hs5
        have hs6 : v5 = .slice a5 (m + 1) c5 := hs5
        subst hs6
        rw [← HR2.out] at ho5
        have O5 := Lib.hid ho5
        clear ho5 hg5 hs5 O4 L4 B4
        go_wp2
        go_roundw
        case rel => exact ⟨j + 1, m + 1, a5, c5, by omega, rfl, by rw [show ((2 + (j + 1) : Nat) : Int) = (p : Int) + 1 from by have := HP.out; omega], Lib.hid (by rw [HC2.out]), O5, B5⟩
        case measure => (simp [intOf]; try omega)
      | false =>
        have HR2 : Hid (rts power (j + 1) = rts power j) := Lib.hid (by rw [HR.out, if_neg (by decide)])
        have HC2 : Hid (cnt (j + 1) = m) := Lib.hid (by rw [HC.out, if_neg (by decide), HM.out])
        rw [← HR2.out] at O
        go_wp2_with fail
        refine (P1.out).mono ?_; rintro e4 w4 ⟨rfl, rfl⟩
        go_wp2
        go_roundw
        case rel => exact ⟨j + 1, m, a, c, by omega, rfl, by rw [show ((2 + (j + 1) : Nat) : Int) = (p : Int) + 1 from by have := HP.out; omega], Lib.hid (by rw [HC2.out]), O, B⟩
        case measure => (simp [intOf]; try omega)
    · obtain rfl : j = J := by omega
      have hmn : m = n := by rw [HM.out, H2.out]
      subst hmn
      have hd : decide ((m : Int) < (m : Int)) = false := by simp
      go_wp2
      go_ret
      exact ⟨_, _, rfl, O.out, B.out⟩
/-- The square roots' bits; the cube roots'. -/
theorem rootsEight (w : World) : Calls Tryd.prog 31 #[.int .i64 8, .int .i64 2] w fun e w' => ShapedQ 8 hon.list w e w' := by
  have := roots 8 2 18 w (Or.inl rfl) (by decide) (by decide) (fun j hj => by have := cnt_mono (show j ≤ 17 by omega); rw [cnt_eight] at this; omega) (by decide +kernel)
  rw [rts_eight] at this
  exact this
theorem rootsAll (w : World) : Calls Tryd.prog 31 #[.int .i64 64, .int .i64 3] w fun e w' => ShapedQ 64 kon w e w' := by
  have := roots 64 3 310 w (Or.inr rfl) (by decide) (by decide) (fun j hj => by have := cnt_mono (show j ≤ 309 by omega); rw [cnt_all] at this; omega) (by decide +kernel)
  rw [rts_all] at this
  exact this
end Go.Proofs.YtknkmblacaaegaaDoor
