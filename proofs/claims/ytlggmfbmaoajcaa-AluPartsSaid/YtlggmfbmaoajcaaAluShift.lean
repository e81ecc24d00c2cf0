/- Shifts bit by bit, and as products and quotients by powers of two. -/
import Derived.Test.YtlggmfbmaoajcaaAluBits
import Derived.Test.YtlggmfbmaoajcaaAluSpec
namespace Go.Proofs.Ytlggmfbmaoajcaa
open Go.RowKit
theorem mv_shl (n X S : Nat) : ofBits (movedG X (S : Int) n false) n = X * 2 ^ S % 2 ^ n := by
  refine ofBits_eq fun i => ?_
  rw [Nat.testBit_mod_two_pow, Nat.testBit_mul_two_pow]
  by_cases hi : i < n
  · simp only [hi, decide_true, Bool.true_and]
    by_cases hs : S ≤ i
    · rw [movedG_in (by omega) (by omega)]
      simp only [hs, decide_true, Bool.true_and]
      congr 1; omega
    · rw [movedG_out (by omega)]; simp [hs]
  · simp [hi]
theorem mv_shr (n X S : Nat) (h : X < 2 ^ n) : ofBits (movedG X (-(S : Int)) n false) n = X / 2 ^ S := by
  refine ofBits_eq fun i => ?_
  rw [Nat.testBit_div_two_pow]
  by_cases hi : i < n
  · simp only [hi, decide_true, Bool.true_and]
    by_cases hs : i + S < n
    · rw [movedG_in (by omega) (by omega)]
      congr 1; omega
    · rw [movedG_out (by omega), Nat.testBit_lt_two_pow (Nat.lt_of_lt_of_le h (Nat.pow_le_pow_right (by decide) (by omega)))]
  · simp only [hi, decide_false, Bool.false_and]
    rw [Nat.testBit_lt_two_pow (Nat.lt_of_lt_of_le h (Nat.pow_le_pow_right (by decide) (by omega)))]
theorem mv_sar_up (n X S : Nat) (h : X < 2 ^ n) : ofBits (movedG (2 ^ n - (X + 1)) (-(S : Int)) n true) n = 2 ^ n - (X / 2 ^ S + 1) := by
  refine ofBits_eq fun i => ?_
  have hd : X / 2 ^ S < 2 ^ n := Nat.lt_of_le_of_lt (Nat.div_le_self _ _) h
  rw [Nat.testBit_two_pow_sub_succ hd, Nat.testBit_div_two_pow]
  by_cases hi : i < n
  · simp only [hi, decide_true, Bool.true_and]
    by_cases hs : i + S < n
    · rw [movedG_in (by omega) (by omega), Nat.testBit_two_pow_sub_succ h]
      rw [show ((i : Int) - -(S : Int)).toNat = S + i from by omega]
      have : S + i < n := by omega
      simp [this, Nat.add_comm]
    · rw [movedG_out (by omega), Nat.testBit_lt_two_pow (Nat.lt_of_lt_of_le h (Nat.pow_le_pow_right (by decide) (by omega)))]; rfl
  · simp [hi]
theorem neg_div (a b : Int) (hb : 0 < b) : (-(a + 1)) / b = -(a / b) - 1 := by
  have h1 := Int.mul_ediv_add_emod a b
  have h2 := Int.emod_nonneg a (by omega : b ≠ 0)
  have h3 := Int.emod_lt_of_pos a hb
  have h4 : -(a + 1) = (b - 1 - a % b) + b * (-(a / b) - 1) := by
    have : b * (-(a / b) - 1) = -(b * (a / b)) - b := by rw [Int.mul_sub, Int.mul_neg, Int.mul_one]
    omega
  rw [h4, Int.add_mul_ediv_left _ _ (by omega), Int.ediv_eq_zero_of_lt (by omega) (by omega)]
  omega
theorem mv_sar (n X S : Nat) (h : X < 2 ^ (n + 1)) : ((ofBits (movedG X (-(S : Int)) (n + 1) (X.testBit n)) (n + 1) : Nat) : Int) = (if X < 2 ^ n then (X : Int) else (X : Int) - ((2 ^ (n + 1) : Nat) : Int)) / 2 ^ S % ((2 ^ (n + 1) : Nat) : Int) := by
  by_cases hx : X < 2 ^ n
  · rw [if_pos hx, Nat.testBit_lt_two_pow hx, mv_shr _ _ _ h]
    have hd : X / 2 ^ S < 2 ^ (n + 1) := Nat.lt_of_le_of_lt (Nat.div_le_self _ _) h
    have e : ((X : Int) / 2 ^ S) = ((X / 2 ^ S : Nat) : Int) := by norm_cast
    rw [e]
    exact (Int.emod_eq_of_lt (Int.natCast_nonneg _) (by exact_mod_cast hd)).symm
  · rw [if_neg hx]
    have hp : 2 ^ (n + 1) = 2 ^ n + 2 ^ n := by rw [Nat.pow_succ]; omega
    obtain ⟨Y, hY, hXY⟩ : ∃ Y, Y < 2 ^ n ∧ X = 2 ^ (n + 1) - (Y + 1) := ⟨2 ^ (n + 1) - (X + 1), by omega, by omega⟩
    have hY2 : Y < 2 ^ (n + 1) := by omega
    have hb : X.testBit n = true := by
      rw [hXY, Nat.testBit_two_pow_sub_succ hY2, Nat.testBit_lt_two_pow hY]; simp
    rw [hb]
    have e1 : ((X : Int) - ((2 ^ (n + 1) : Nat) : Int)) = -((Y : Int) + 1) := by omega
    have hpos : (0 : Int) < 2 ^ S := Int.pow_pos (by decide)
    rw [e1, neg_div _ _ hpos]
    have e : ((Y : Int) / 2 ^ S) = ((Y / 2 ^ S : Nat) : Int) := by norm_cast
    have hd : Y / 2 ^ S < 2 ^ (n + 1) := Nat.lt_of_le_of_lt (Nat.div_le_self _ _) hY2
    rw [e]
    have e2 : ((2 ^ (n + 1) - (Y / 2 ^ S + 1) : Nat) : Int) = -((Y / 2 ^ S : Nat) : Int) - 1 + ((2 ^ (n + 1) : Nat) : Int) := by omega
    have e3 : ofBits (movedG X (-(S : Int)) (n + 1) true) (n + 1) = 2 ^ (n + 1) - (Y / 2 ^ S + 1) := by rw [hXY]; exact mv_sar_up (n + 1) Y S hY2
    rw [e3, e2]
    generalize 2 ^ (n + 1) = Z at *
    generalize Y / 2 ^ S = V at *
    have h5 : (-(V : Int) - 1) % (Z : Int) = (-(V : Int) - 1 + Z) % (Z : Int) := by rw [Int.add_emod_right]
    rw [h5]
    exact (Int.emod_eq_of_lt (by omega) (by omega)).symm
end Go.Proofs.Ytlggmfbmaoajcaa
